/- What snapKept_proved stands on, part 2 of 8. -/
import Derived.Test.YtpnccmlajhhpdaaSK1
import Derived.MapKept
import Derived.RangeFuncRecord
import Derived.KernelRfl
import Derived.Laws.Externs
import Derived.Lib.UnsafeStr
import Derived.Lib.MakeNoZero
namespace Go.Proofs.Ytpnccmlajhhpdaa.Abs
noncomputable section
open Go.RowKit
section
variable {P : Program} {m : Map} {w0 : Base} {w : World} {H H' : AHeap} {nx : ANext}
theorem check_plain {t : TypeId} {d : TypeDesc} {v : Value} (hu : P.underlying t = some d) (hd : (∃ q, d = .int q) ∨ d = .string ∨ d = .bool) (n : Nat) (w : World) (e : Bool) : (Instr.checkKey e (n + 1) t v).run P w = .ok () w := by
 rcases hd with ⟨q, rfl⟩ | rfl | rfl <;> simp only [Instr.checkKey, Sem.run_bind, run_underlying hu, Result.andThen_ok] <;> rfl
theorem bytes_lawful {s s' : ByteArray} (h : (s == s') = true) : s.data.toList = s'.data.toList := by
 have : s.data == s'.data := h
 have := eq_of_beq this
 rw [this]
theorem key_desc {t : TypeId} {k : AV} {k' : Value} (h : keyT P t k = true) (hk : Rel m k k') (hna : ∀ l, k ≠ .agg l) : ∃ d, P.underlying t = some d ∧ ((∃ q, d = .int q) ∨ d = .string ∨ d = .bool) ∧ (∀ (w : World) (e : Bool), (Instr.checkKey e 10000 t k').run P w = .ok () w) ∧
  ∀ (x : AV) (x' : Value) (b : Bool), Rel m x x' → sameKey k x = some b → Instr.sameNow d k' x' = some b ∧ (b = true → ∀ n, Instr.sameBits n x' k' = true) := by
 unfold keyT at h
 split at h
 ·rename_i q hu
  split at h
  ·rename_i kk n
   have := rel_int hk; subst this
   refine ⟨_, hu, .inl ⟨q, rfl⟩, fun w e => check_plain hu (.inl ⟨q, rfl⟩) 9999 w e, fun x x' b hx hs => ?_⟩
   unfold sameKey at hs
   simp only at hs
   split at hs
   ·split at hs
    ·rename_i k2 n2 hkk
     subst hkk
     have := rel_int hx; subst this
     simp only [Option.some.injEq] at hs; subst hs
     refine ⟨by simp [Instr.sameNow], fun hb n => ?_⟩
     have : n = n2 ∨ True := .inr trivial
     simp only [beq_iff_eq] at hb; subst hb
     cases n <;> simp [Instr.sameBits]
    ·cases hs
   ·cases hs
  ·cases h
 ·rename_i hu
  split at h
  ·rename_i n v
   cases hk with | str s h1 h2 =>
   refine ⟨_, hu, .inr (.inl rfl), fun w e => check_plain hu (.inr (.inl rfl)) 9999 w e, fun x x' b hx hs => ?_⟩
   unfold sameKey at hs
   simp only at hs
   split at hs
   ·cases hx with | str s' h3 h4 =>
    simp only [Option.some.injEq] at hs; subst hs
    rw [str_beq h1 h2 h3 h4]
    refine ⟨rfl, fun hb n => ?_⟩
    have hl := bytes_lawful hb
    have : s' == s := by
     show (s'.data == s.data) = true
     rw [beq_iff_eq]
     exact (Array.ext' hl).symm
    cases n <;> exact this
   ·cases hs
  ·cases h
 ·rename_i hu
  split at h
  ·have := rel_bool hk; subst this
   refine ⟨_, hu, .inr (.inr rfl), fun w e => check_plain hu (.inr (.inr rfl)) 9999 w e, fun x x' b hx hs => ?_⟩
   unfold sameKey at hs
   simp only at hs
   split at hs
   ·have := rel_bool hx; subst this
    simp only [Option.some.injEq] at hs; subst hs
    refine ⟨rfl, fun hb n => ?_⟩
    simp only [beq_iff_eq] at hb; subst hb
    cases n <;> simp [Instr.sameBits]
   ·cases hs
  ·cases h
 ·split at h
  ·exact absurd rfl (hna _)
  ·cases h
 ·cases h
theorem sameKey_bits {k x : AV} {k' x' : Value} (hk : Rel m k k') (hx : Rel m x x') (h : sameKey k x = some true) (n : Nat) : Instr.sameBits n x' k' = true := by
 unfold sameKey at h
 split at h
 ·split at h
  ·split at h
   ·rename_i hkk
    subst hkk
    simp only [Option.some.injEq, beq_iff_eq] at h
    subst h
    rw [rel_int hk, rel_int hx]
    cases n <;> simp [Instr.sameBits]
   ·cases h
  ·cases h
 ·split at h
  ·cases hk with | str s h1 h2 => cases hx with | str s' h3 h4 =>
   simp only [Option.some.injEq] at h
   rw [str_beq h1 h2 h3 h4] at h
   have hl := bytes_lawful h
   have : s' == s := by
    show (s'.data == s.data) = true
    rw [beq_iff_eq]
    exact (Array.ext' hl).symm
   cases n <;> exact this
  ·cases h
 ·split at h
  ·simp only [Option.some.injEq, beq_iff_eq] at h
   subst h
   rw [rel_bool hk, rel_bool hx]
   cases n <;> simp [Instr.sameBits]
  ·cases h
 ·cases h
theorem keyCells_bits : ∀ (l x : List AV) (l' x' : List Value), RelL m l l' → RelL m x x' → keyCells l x = true → ∀ (n : Nat), ((x'.zip l').all fun (a, b) => Instr.sameBits n a b) = true ∧ x'.length = l'.length
 | [], x, _, x', hl, hx, h, n => by
  cases hl
  cases x with
  | nil => cases hx; simp
  | cons a x => simp [keyCells] at h
 | a :: l, x, _, x', hl, hx, h, n => by
  cases hl with | cons ha hl =>
  cases x with
  | nil => simp [keyCells] at h
  | cons b x =>
   cases hx with | cons hb hx =>
   simp only [keyCells] at h
   split at h
   ·rename_i hs
    obtain ⟨h1, h2⟩ := keyCells_bits l x _ _ hl hx h n
    simp [sameKey_bits ha hb hs n, h2]
    simpa using h1
   ·cases h
structure KeyOK (P : Program) (m : Map) (w : World) (kt : TypeId) (k : AV) (k' : Value) where
 FK : List MapEntry → Nat → Option (Nat × Value) → Prop
 chk : ∀ (e : Bool), (Instr.checkKey e 10000 kt k').run P w = .ok () w
 nil : ∀ i, FK [] i none
 hit : ∀ (en : MapEntry) (es : List MapEntry) (i : Nat) (x : AV), Rel m x en.key → keySame P kt k x = some true → FK (en :: es) i (some (i, en.val))
 miss : ∀ (en : MapEntry) (es : List MapEntry) (i : Nat) (x : AV) (r : Option (Nat × Value)), Rel m x en.key → keySame P kt k x = some false → FK es (i + 1) r → FK (en :: es) i r
 run : ∀ es r, FK es 0 r → (Instr.findKey kt k' es).run P w = .ok r w
 bits : ∀ (x : AV) (x' : Value), Rel m x x' → keySame P kt k x = some true → Instr.sameBits 10000 x' k' = true
theorem key_plain {t : TypeId} {k : AV} {k' : Value} (h : keyT P t k = true) (hk : Rel m k k') (hna : ∀ l, k ≠ .agg l) (w : World) : Nonempty (KeyOK P m w t k k') := by
 have e : ∀ x, keySame P t k x = sameKey k x := fun x => by
  unfold keySame
  split
  ·exact absurd rfl (hna _)
  ·rfl
 have h2 : ∃ d, P.underlying t = some d ∧ ((∃ q, d = .int q) ∨ d = .string ∨ d = .bool) ∧ (∀ (w : World) (e : Bool), (Instr.checkKey e 10000 t k').run P w = .ok () w) ∧
  ∀ (x : AV) (x' : Value) (b : Bool), Rel m x x' → sameKey k x = some b → Instr.sameNow d k' x' = some b ∧ (b = true → ∀ n, Instr.sameBits n x' k' = true) := key_desc h hk hna
 obtain ⟨d, hd, _, hck, hs⟩ := h2
 refine ⟨{ FK := fun es i r => Instr.findNow d k' es i = some r, chk := hck w, nil := fun i => rfl, hit := fun en es i x hx hb => ?_, miss := fun en es i x r hx hb hr => ?_, run := fun es r hr => ?_, bits := fun x x' hx hb => ?_ }⟩
 ·rw [e] at hb
  simp [Instr.findNow, (hs _ _ _ hx hb).1]
 ·rw [e] at hb
  simp only [Instr.findNow, (hs _ _ _ hx hb).1]; exact hr
 ·simp [Instr.findKey, run_underlying hd, hr]
 ·rw [e] at hb
  exact (hs _ _ _ hx hb).2 rfl _
theorem check_field {l : List AV} {l' : List Value} (hl : RelL m l l') (e : Bool) (n : Nat) (w : World) {f : Field} {fs : List Field} (h : keyFs P l (f :: fs) = true) :
  f.name ≠ "_" ∧ (∃ x', (part f.type ⟨l'⟩ f.offset).run P w = .ok x' w ∧ (Instr.checkKey e (n + 1) f.type x').run P w = .ok () w) ∧ keyFs P l fs = true := by
 simp only [keyFs, Bool.and_eq_true, bne_iff_ne, ne_eq] at h
 obtain ⟨⟨⟨h1, h2⟩, h3⟩, h4⟩ := h
 obtain ⟨x, hx⟩ := Option.isSome_iff_exists.1 h3
 obtain ⟨x', hp, _⟩ := part_ok hl hx w
 refine ⟨h1, ⟨x', hp, ?_⟩, h4⟩
 unfold plainKT at h2
 split at h2
 ·rename_i hu; exact check_plain hu (.inl ⟨_, rfl⟩) n w e
 ·rename_i hu; exact check_plain hu (.inr (.inl rfl)) n w e
 ·rename_i hu; exact check_plain hu (.inr (.inr rfl)) n w e
 ·cases h2
theorem key_struct {t : TypeId} {l : List AV} {k' : Value} {fs : Array Field} (hu : P.underlying t = some (.struct fs)) (hf : keyFs P l fs.toList = true) (hk : Rel m (.agg l) k') (w : World) : Nonempty (KeyOK P m w t (.agg l) k') := by
 have heq : ∀ (x : AV) (x' : Value) (b : Bool), Rel m x x' → keySame P t (.agg l) x = some b → (Op.equal t k' x').run P w = .ok b w ∧ (b = true → Instr.sameBits 10000 x' k' = true) := by
  intro x x' b hx hs
  unfold keySame at hs
  simp only at hs
  split at hs
  ·rename_i q
   split at hs
   ·rename_i he
    split at hs
    ·rename_i hc
     simp only [Option.some.injEq] at hs
     subst hs
     refine ⟨eqA_ok 64 t _ _ _ _ _ he hk hx Op.maxDepth w (by decide), fun _ => ?_⟩
     cases hk with | agg hk => cases hx with | agg hx =>
     obtain ⟨h1, h2⟩ := keyCells_bits _ _ _ _ hk hx hc 9999
     simp only [Instr.sameBits, Bool.and_eq_true, beq_iff_eq]
     exact ⟨by simpa using h2, by simpa using h1⟩
    ·cases hs
   ·rename_i r he
    refine ⟨eqA_ok 64 t _ _ _ _ _ hs hk hx Op.maxDepth w (by decide), fun hb => ?_⟩
    subst hb
    exact absurd hs he
  ·cases hs
 cases hk with | @agg _ l' hl =>
 refine ⟨{ FK := fun es i r => (Instr.findAsking t (.agg ⟨l'⟩) es i).run P w = .ok r w, chk := fun e => ?_, nil := fun i => by simp [Instr.findAsking], hit := fun en es i x hx hb => ?_, miss := fun en es i x r hx hb hr => ?_, run := fun es r hr => ?_, bits := fun x x' hx hb => (heq x x' true hx hb).2 rfl }⟩
 ·rw [show (10000 : Nat) = 9998 + 1 + 1 from rfl, Instr.checkKey]
  simp only [Sem.run_bind, run_underlying hu, Result.andThen_ok]
  rw [← Array.forIn_toList]
  clear hu heq
  generalize fs.toList = L at hf
  induction L with
  | nil => simp
  | cons f L ih =>
   obtain ⟨hn, ⟨x', p1, p2⟩, h4⟩ := check_field hl e 9998 w hf
   simp only [List.forIn_cons, Sem.run_bind, hn, ne_eq, not_false_eq_true, if_true, Result.andThen_ok, p1, p2, Sem.run_pure]
   exact ih h4
 ·simp [Instr.findAsking, (heq x _ _ hx hb).1]
 ·simp [Instr.findAsking, (heq x _ _ hx hb).1]
  exact hr
 ·cases es with
  | nil =>
   simp [Instr.findAsking] at hr
   subst hr
   simp [Instr.findKey, run_underlying hu, Instr.findNow]
  | cons en es =>
   have : Instr.findNow (.struct fs) (.agg ⟨l'⟩) (en :: es) 0 = none := by simp [Instr.findNow, Instr.sameNow]
   simp only [Instr.findKey, Sem.run_bind, run_underlying hu, Result.andThen_ok, this]
   exact hr
theorem key_ok {t : TypeId} {k : AV} {k' : Value} (h : keyT P t k = true) (hk : Rel m k k') (w : World) : Nonempty (KeyOK P m w t k k') := by
 by_cases hna : ∀ l, k ≠ .agg l
 ·exact key_plain h hk hna w
 ·have : ∃ l, k = .agg l := by
   apply Classical.byContradiction
   intro hc
   exact hna fun l e => hc ⟨l, e⟩
  obtain ⟨l, rfl⟩ := this
  unfold keyT at h
  split at h
  ·cases h
  ·cases h
  ·cases h
  ·rename_i fs hu
   exact key_struct hu h hk w
  ·cases h
theorem findM_ok {kt : TypeId} {k : AV} {k' : Value} (K : KeyOK P m w kt k k') : ∀ (es : List (AV × AV)) (es' : List MapEntry) (r : Option AV) (i : Nat), RelM m es es' → findM P kt k es = some r →
  ∃ r', K.FK es' i r' ∧ ((r = none ∧ r' = none) ∨ ∃ v v' j, r = some v ∧ r' = some (j, v') ∧ Rel m v v')
 | [], _, r, i, he, h => by
  cases he
  simp only [findM, Option.some.injEq] at h; subst h
  exact ⟨none, K.nil i, .inl ⟨rfl, rfl⟩⟩
 | (x, v) :: es, _, r, i, he, h => by
  cases he with | cons hk hv he =>
  simp only [findM] at h
  split at h
  ·rename_i hb
   simp only [Option.some.injEq] at h; subst h
   exact ⟨some (i, _), K.hit _ _ i x hk hb, .inr ⟨v, _, i, rfl, rfl, hv⟩⟩
  ·rename_i hb
   obtain ⟨r', h1, h2⟩ := findM_ok K es _ r (i + 1) he h
   exact ⟨r', K.miss _ _ i x r' hk hb h1, h2⟩
  ·cases h
theorem mapGet_ok (F : Fits w0 m H w) {x : AV} {x' : Value} {es : List (AV × AV)} (hx : Rel m x x') (h : mapGet H x = some es) : (x' = .map none ∧ es = []) ∨ ∃ b g es' clock, x = .mp b ∧ x' = .map (some g) ∧ m[b]? = some (some (g, 0, 0)) ∧ H.get b = some (.map es) ∧ w.heap[g]? = some (.map es' clock) ∧ RelM m es es'.toList := by
 unfold mapGet at h
 split at h
 ·simp only [Option.some.injEq] at h; subst h
  cases hx
  exact .inl ⟨rfl, rfl⟩
 ·rename_i b
  split at h
  ·rename_i es' hb
   simp only [Option.some.injEq] at h; subst h
   cases hx with | @mp _ g hm =>
   obtain ⟨_, _, _, es2, clock, hheap, hrel⟩ := F.map b es' _ _ _ hb hm
   exact .inr ⟨b, g, es2, clock, rfl, rfl, hm, hb, hheap, hrel⟩
  ·cases h
 ·cases h
def lookTail (kt et : TypeId) (y' : Value) (ok : Bool) (es : Array MapEntry) : Sem Value := do
 Instr.checkKey es.isEmpty 10000 kt y'
 let (v, ok') ← match ← Instr.findKey kt y' es.toList with
  | some (_, v) => pure (v, true)
  | none => pure (← zeroValue et, false)
 pure (if ok then .tuple #[v, .bool ok'] else v)
theorem tail_ok {kt et : TypeId} {ok : Bool} {k : AV} {y' : Value} {es : List (AV × AV)} {es' : Array MapEntry} (hkt : keyT P kt k = true) (hyk : Rel m k y') (hrel : RelM m es es'.toList) (h : lookOut P H et ok (findM P kt k es) = some (nx, H')) : PureOK m w H nx H' ((lookTail kt et y' ok es').run P w) := by
 obtain ⟨K⟩ := key_ok (m := m) hkt hyk w
 have hck := K.chk
 unfold lookOut at h
 split at h
 ·rename_i v hf
  obtain ⟨r', h1, h2⟩ := findM_ok K es es'.toList (some v) 0 hrel hf
  rcases h2 with ⟨h2, _⟩ | ⟨v1, v', j, h2, rfl, hv⟩
  ·cases h2
  ·cases h2
   have hfk : (Instr.findKey kt y' es'.toList).run P w = .ok (some (j, v')) w := K.run _ _ h1
   cases ok
   ·refine val_ok (v' := v') h ?_ hv
    simp only [lookTail, Sem.run_bind, Result.andThen_ok, hck _, hfk, Sem.run_pure]
    rfl
   ·refine val_ok (v' := .tuple #[v', .bool true]) h ?_ (.tup (.cons hv (.cons (.bool true) .nil)))
    simp only [lookTail, Sem.run_bind, Result.andThen_ok, hck _, hfk, Sem.run_pure]
    rfl
 ·rename_i hf
  obtain ⟨r', h1, h2⟩ := findM_ok K es es'.toList none 0 hrel hf
  rcases h2 with ⟨_, rfl⟩ | ⟨v1, v', j, h2, _, hv⟩
  ·split at h
   ·rename_i z hz
    obtain ⟨i, zv, hi, hzv, hrz, _, _⟩ := zero_ok m hz
    have hzr : (zeroValue et).run P w = .ok zv w := by simp [zeroValue, typeInfo, hi, hzv]
    have hfk : (Instr.findKey kt y' es'.toList).run P w = .ok none w := K.run _ _ h1
    cases ok
    ·refine val_ok (v' := zv) h ?_ hrz
     simp only [lookTail, Sem.run_bind, Result.andThen_ok, hck _, hfk, Sem.run_pure, hzr]
     rfl
    ·refine val_ok (v' := .tuple #[zv, .bool false]) h ?_ (.tup (.cons hrz (.cons (.bool false) .nil)))
     simp only [lookTail, Sem.run_bind, Result.andThen_ok, hck _, hfk, Sem.run_pure, hzr]
     rfl
   ·cases h
  ·cases h2
 ·cases h
theorem lookup_ok (F : Fits w0 m H w) {t : TypeId} {ok : Bool} {x y : Option AV} {x' y' : Value} (hx : ∀ v, x = some v → Rel m v x') (hy : ∀ v, y = some v → Rel m v y') (h : opLookup P H t ok x y = some (nx, H')) : PureOK m w H nx H' ((Instr.lookup t x' y' ok).run P w) := by
 unfold opLookup at h
 split at h
 ·rename_i a k
  have hxa := hx _ rfl
  have hyk := hy _ rfl
  split at h
  ·rename_i kt et hu
   split at h
   ·rename_i hkt
    split at h
    ·rename_i es hes
     rcases mapGet_ok F hxa hes with ⟨rfl, rfl⟩ | ⟨b, g, es', clock, rfl, rfl, hm, hb, hheap, hrel⟩
     ·have := tail_ok (w := w) (es' := #[]) hkt hyk .nil h
      have e : (Instr.lookup t (.map none) y' ok).run P w = (lookTail kt et y' ok #[]).run P w := by
       simp only [Instr.lookup, lookTail, Sem.run_bind, run_underlying hu, Result.andThen_ok, Sem.run_pure]
       rfl
      rw [e]; exact this
     ·have := tail_ok (w := w) (es' := es') hkt hyk hrel h
      have e : (Instr.lookup t (.map (some g)) y' ok).run P w = (lookTail kt et y' ok es').run P w := by
       simp only [Instr.lookup, lookTail, Sem.run_bind, run_underlying hu, Result.andThen_ok, run_getObj_map (P := P) hheap, Sem.run_pure]
       rfl
      rw [e]; exact this
    ·cases h
   ·cases h
  ·cases h
 ·cases h
theorem run_setObj_map {g clock : Nat} {es : Array MapEntry} (o' : Obj) (h : w.heap[g]? = some (.map es clock)) : (setObj g o').run P w = .ok () (w.putObj g o') := by
 simp [setObj, Sem.run, h, World.putObj]
theorem below_putObj {B g : Nat} {o : Obj} (hg : B ≤ g) {a : World} (h : Below B a w) : Below B a (w.putObj g o) :=
 h.trans ⟨rfl, rfl, rfl, by simp [World.putObj], fun k hk => World.putObj_heap_other (by omega)⟩
theorem mapPut_fits (F : Fits w0 m H w) {b g clock clock' : Nat} {es es2 : List (AV × AV)} {es' es2' : Array MapEntry} (hm : m[b]? = some (some (g, 0, 0))) (hb : H.get b = some (.map es)) (hheap : w.heap[g]? = some (.map es' clock)) (hrel : RelM m es2 es2'.toList) :
  Fits w0 m (H.put b (.map es2)) (w.putObj g (.map es2' clock')) := by
 obtain ⟨_, _, hB, _⟩ := F.map b es g 0 0 hb hm
 exact F.put hb rfl rfl hm (below_putObj hB F.below) (fun k hk _ => World.putObj_heap_other hk) (fun n t e he => by cases he) (fun es3 he => by
  cases he
  exact ⟨rfl, rfl, hB, es2', clock', World.putObj_heap_same (heap_lt hheap), hrel⟩) (fun n t e he => by cases he)
theorem putM_ok {kt : TypeId} {k v : AV} {k' v' : Value} (K : KeyOK P m w kt k k') (hk' : Rel m k k') (hv' : Rel m v v') : ∀ (es r : List (AV × AV)) (es' : List MapEntry) (i clock : Nat), RelM m es es' → putM P kt k v es = some r →
  (K.FK es' i none ∧ RelM m r (es' ++ [{ key := k', val := v', born := clock }])) ∨
  ∃ j u en, K.FK es' i (some (i + j, u)) ∧ es'[j]? = some en ∧ Instr.sameBits 10000 en.key k' = true ∧ RelM m r (es'.modify j fun e => { e with key := k', val := v' })
 | [], r, _, i, clock, he, h => by
  cases he
  simp only [putM, Option.some.injEq] at h; subst h
  exact .inl ⟨K.nil i, .cons hk' hv' .nil⟩
 | (x, u) :: es, r, _, i, clock, he, h => by
  cases he with | @cons _ _ en _ l' hk hv he =>
  simp only [putM] at h
  split at h
  ·rename_i hb
   simp only [Option.some.injEq] at h; subst h
   refine .inr ⟨0, en.val, en, ?_, rfl, K.bits _ _ hk hb, ?_⟩
   ·exact K.hit _ _ i x hk hb
   ·simpa using RelM.cons hk' hv' he
  ·rename_i hb
   split at h
   ·rename_i r' hr'
    simp only [Option.some.injEq] at h; subst h
    rcases putM_ok K hk' hv' es r' l' (i + 1) clock he hr' with ⟨h1, h2⟩ | ⟨j, u', en', h1, h2, h3, h4⟩
    ·exact .inl ⟨K.miss _ _ i x _ hk hb h1, .cons hk hv h2⟩
    ·refine .inr ⟨j + 1, u', en', ?_, by simpa using h2, h3, ?_⟩
     ·have := K.miss _ _ i x _ hk hb h1
      rwa [show i + 1 + j = i + (j + 1) by omega] at this
     ·simpa using RelM.cons hk hv h4
   ·cases h
  ·cases h
theorem mapUpdate_ok (F : Fits w0 m H w) {t : TypeId} {a x y : Option AV} {a' x' y' : Value} (ha : ∀ v, a = some v → Rel m v a') (hx : ∀ v, x = some v → Rel m v x') (hy : ∀ v, y = some v → Rel m v y') (h : opMapUpdate P H t a x y = some (nx, H')) :
  ∃ w', nx = .skip ∧ Fits w0 m H' w' ∧ (Instr.mapUpdate t a' x' y').run P w = .ok () w' := by
 unfold opMapUpdate at h
 split at h
 ·rename_i b k v
  have hra := ha _ rfl
  have hrk := hx _ rfl
  have hrv := hy _ rfl
  split at h
  ·rename_i kt et hu
   split at h
   ·rename_i hkt
    obtain ⟨K⟩ := key_ok (m := m) hkt hrk w
    have hck := K.chk
    split at h
    ·rename_i es hes
     unfold mapPut at h
     split at h
     ·rename_i es2 hput
      simp only [Option.some.injEq, Prod.mk.injEq] at h
      obtain ⟨rfl, rfl⟩ := h
      rcases mapGet_ok F hra hes with ⟨e, _⟩ | ⟨b', g, es', clock, eb, rfl, hm, hb, hheap, hrel⟩
      ·cases hra; cases e
      ·cases eb
       have hgo := run_getObj_map (P := P) hheap
       rcases putM_ok K hrk hrv es es2 es'.toList 0 clock hrel hput with ⟨h1, h2⟩ | ⟨j, u, en, h1, h2, h3, h4⟩
       ·have hfk : (Instr.findKey kt x' es'.toList).run P w = .ok none w := K.run _ _ h1
        refine ⟨w.putObj g (.map (es'.push { key := x', val := y', born := clock }) (clock + 1)), rfl, mapPut_fits F hm hb hheap (by simpa using h2), ?_⟩
        simp only [Instr.mapUpdate, Sem.run_bind, run_underlying hu, Result.andThen_ok, hgo, hck _, hfk]
        exact run_setObj_map _ hheap
       ·have hfk : (Instr.findKey kt x' es'.toList).run P w = .ok (some (j, u)) w := by
         have := K.run _ _ h1
         rwa [Nat.zero_add] at this
        have hen : es'[j]? = some en := by simpa using h2
        have hks : (Instr.keyThatStays (((es'[j]?).map (·.key)).getD x') x').run P w = .ok x' w := by
         simp [hen, Instr.keyThatStays, h3]
        refine ⟨w.putObj g (.map (es'.modify j fun e => { e with key := x', val := y' }) clock), rfl, mapPut_fits F hm hb hheap (by simpa using h4), ?_⟩
        simp only [Instr.mapUpdate, Sem.run_bind, run_underlying hu, Result.andThen_ok, hgo, hck _, hfk, hks]
        exact run_setObj_map _ hheap
     ·cases h
    ·cases h
   ·cases h
  ·cases h
 ·cases h
theorem delM_ok {kt : TypeId} {k : AV} {k' : Value} (K : KeyOK P m w kt k k') : ∀ (es r : List (AV × AV)) (es' : List MapEntry) (i : Nat), RelM m es es' → delM P kt k es = some r →
  (K.FK es' i none ∧ RelM m r es') ∨ ∃ j u, K.FK es' i (some (i + j, u)) ∧ RelM m r (es'.eraseIdx j)
 | [], r, _, i, he, h => by
  cases he
  simp only [delM, Option.some.injEq] at h; subst h
  exact .inl ⟨K.nil i, .nil⟩
 | (x, u) :: es, r, _, i, he, h => by
  cases he with | @cons _ _ en _ l' hk hv he =>
  simp only [delM] at h
  split at h
  ·rename_i hb
   simp only [Option.some.injEq] at h; subst h
   exact .inr ⟨0, en.val, K.hit _ _ i x hk hb, by simpa using he⟩
  ·rename_i hb
   split at h
   ·rename_i r' hr'
    simp only [Option.some.injEq] at h; subst h
    rcases delM_ok K es r' l' (i + 1) he hr' with ⟨h1, h2⟩ | ⟨j, u', h1, h4⟩
    ·exact .inl ⟨K.miss _ _ i x _ hk hb h1, .cons hk hv h2⟩
    ·refine .inr ⟨j + 1, u', ?_, ?_⟩
     ·have := K.miss _ _ i x _ hk hb h1
      rwa [show i + 1 + j = i + (j + 1) by omega] at this
     ·simpa using RelM.cons hk hv h4
   ·cases h
  ·cases h
theorem delete_ok (F : Fits w0 m H w) {t : TypeId} {a x : AV} {a' x' : Value} (hra : Rel m a a') (hrk : Rel m x x') (ts : Array TypeId) (ty : TypeId) (h0 : ts[0]? = some t) (h : opDelete P H t a x = some (nx, H')) :
  ValPost w0 m H' nx ((Builtin.delete_ ts ty #[a', x']).run P w) := by
 unfold opDelete at h
 split at h
 ·rename_i b kt et hu
  split at h
  ·rename_i hkt
   obtain ⟨K⟩ := key_ok (m := m) hkt hrk w
   have hck := K.chk
   split at h
   ·rename_i es hes
    split at h
    ·rename_i es2 hdel
     simp only [Option.some.injEq, Prod.mk.injEq] at h
     obtain ⟨rfl, rfl⟩ := h
     rcases mapGet_ok F hra hes with ⟨e, _⟩ | ⟨b', g, es', clock, eb, rfl, hm, hb, hheap, hrel⟩
     ·cases hra; cases e
     ·cases eb
      have hgo := run_getObj_map (P := P) hheap
      rcases delM_ok K es es2 es'.toList 0 hrel hdel with ⟨h1, h2⟩ | ⟨j, u, h1, h4⟩
      ·have hfk : (Instr.findKey kt x' es'.toList).run P w = .ok none w := K.run _ _ h1
       refine ⟨m, w.putObj g (.map es' clock), _, .tuple #[], Ext.refl m, mapPut_fits F hm hb hheap h2, rfl, ?_, .tup .nil⟩
       simp [Builtin.delete_, h0, run_underlying hu, hgo, hck _, hfk, run_setObj_map (P := P) _ hheap]
      ·have hfk : (Instr.findKey kt x' es'.toList).run P w = .ok (some (j, u)) w := by
         have := K.run _ _ h1
         rwa [Nat.zero_add] at this
       refine ⟨m, w.putObj g (.map (es'.eraseIdxIfInBounds j) clock), _, .tuple #[], Ext.refl m, mapPut_fits F hm hb hheap (by
        have : (es'.eraseIdxIfInBounds j).toList = es'.toList.eraseIdx j := by
         unfold Array.eraseIdxIfInBounds
         split
         ·simp
         ·rw [List.eraseIdx_of_length_le (by simp; omega)]
        rw [this]; exact h4), rfl, ?_, .tup .nil⟩
       simp [Builtin.delete_, h0, run_underlying hu, hgo, hck _, hfk, run_setObj_map (P := P) _ hheap]
    ·cases h
   ·cases h
  ·cases h
 ·cases h
theorem makeMap_ok (F : Fits w0 m H w) {t : TypeId} {r : Option Operand} {ρ' : Operand → Value} (h : opMakeMap H r = some (nx, H')) : ValPost w0 m H' nx ((Instr.makeMap t (r.map ρ')).run P w) := by
 unfold opMakeMap at h
 split at h
 ·simp only [Option.some.injEq, Prod.mk.injEq] at h
  obtain ⟨rfl, rfl⟩ := h
  have Fa := F.alloc (.map #[] 0)
  refine ⟨_, w.alloc (.map #[] 0), _, .map (some w.heap.size), Ext.append m _, Fa.new (.map []) (g := w.heap.size) (s := 0) (z := 0) (fun b o' s' z' h1 h2 h3 => ?_) (fun n t e he => by cases he) (fun es he => ?_) (fun n t e he => by cases he) (hpin := fun k o' hk _ => by have := heap_lt (F.pin k o' hk).1; omega), rfl, ?_, ?_⟩
  ·have := F.mapped_lt h1 h2 h3; omega
  ·cases he
   exact ⟨rfl, rfl, F.size, #[], 0, heap_alloc_new w _, .nil⟩
  ·simp [Instr.makeMap]
  ·exact .mp (map_new F _)
 ·cases h
theorem clear_ok (F : Fits w0 m H w) {t : TypeId} {x : AV} {x' : Value} (hx : Rel m x x') (ts : Array TypeId) (ty : TypeId) (h0 : ts[0]? = some t) (h : opClear P H t x = some (nx, H')) :
  ValPost w0 m H' nx ((Builtin.clear_ ts ty #[x']).run P w) := by
 unfold opClear at h
 split at h
 ·rename_i e he
  have hu := elemOf_ok he
  split at h
  ·cases hx
   exact PureOK.post F (val_ok (v' := .tuple #[]) h (by simp [Builtin.clear_, h0, run_underlying hu]) (.tup .nil))
  ·cases hx
   exact PureOK.post F (val_ok (v' := .tuple #[]) h (by simp [Builtin.clear_, h0, run_underlying hu]) (.tup .nil))
  ·rename_i b o n sz
   split at h
   ·rename_i z hz
    split at h
    ·rename_i hsz
     split at h
     ·rename_i H1 hput
      simp only [Option.some.injEq, Prod.mk.injEq] at h
      obtain ⟨rfl, rfl⟩ := h
      obtain ⟨i, zv, hi, hzv, hrel, hl, hl'⟩ := zero_ok m hz
      cases hx with | @sl _ _ _ _ cap g s0 z0 hm hcap hzz =>
      obtain ⟨F', hth, hone⟩ := rowPut_ok F hm (hrel.cells.reps n) hput
      refine ⟨m, _, _, .tuple #[], Ext.refl m, F', rfl, ?_, .tup .nil⟩
      have hst := run_storeCells_cells (P := P) g (s0 + o) (List.replicate n zv.cells.toList).flatten 0 w (fun j hj => by simpa using (hth j hj).1) (fun j hj => by simpa using (hth j hj).2) hone
      simp only [Nat.add_zero] at hst
      have hzc : (zeroValue e).run P w = .ok zv w := by simp [zeroValue, typeInfo, hi, hzv]
      cases n with
      | zero =>
       simp [Builtin.clear_, h0, run_underlying hu, World.setCells]
      | succ n =>
       have hcells : (Builtin.zeroCells zv.cells (n + 1)).toList = (List.replicate (n + 1) zv.cells.toList).flatten := by
        by_cases hz0 : zv.cells.size = 0
        ·have e0 : zv.cells.toList = [] := List.eq_nil_of_length_eq_zero (by simpa using hz0)
         rw [e0]
         have : (Builtin.zeroCells zv.cells (n + 1)).size = 0 := by rw [size_zeroCells, hz0]; simp
         have e1 : (Builtin.zeroCells zv.cells (n + 1)).toList = [] := List.eq_nil_of_length_eq_zero (by simpa using this)
         rw [e1]
         simp
        ·have e1 := range_zero zv.cells.toList (n + 1) (by simp; omega)
         have e2 : zv.cells.toList.toArray = zv.cells := by simp
         rw [e2] at e1
         rw [← e1]
         simp [Builtin.zeroCells]
       simp [Builtin.clear_, h0, run_underlying hu, hzc, hcells, hst]
     ·cases h
    ·cases h
   ·cases h
  ·cases h
 ·cases h
end
end
end Go.Proofs.Ytpnccmlajhhpdaa.Abs
namespace Go.Proofs.Ytpnccmlajhhpdaa.Abs
noncomputable section
open Go.RowKit
theorem gen_noEscape : (Extern.allGenericRows.lookup (Extern.AbiNoEscape.rows.headD default).1) = none := by kernel_rfl
theorem typed_noEscape : Extern.allTypedRows.lookup (Extern.AbiNoEscape.rows.headD default).1 = none := by kernel_rfl
theorem all_noEscape : Extern.allRows.lookup (Extern.AbiNoEscape.rows.headD default).1 = some Extern.AbiNoEscape.same := by kernel_rfl
theorem find_noEscape {fn : Func} (h : isRow Extern.AbiNoEscape.rows 0 fn.name = true) : Extern.find fn = some Extern.AbiNoEscape.same := by
 have e : fn.name = (Extern.AbiNoEscape.rows.headD default).1 := by
  unfold isRow at h
  split at h
  ·rename_i n r hr
   have h := eq_of_beq h
   rw [← h]
   simp [Extern.AbiNoEscape.rows] at hr ⊢
   exact hr.1.symm
  ·cases h
 unfold Extern.find
 simp only [e, gen_noEscape, typed_noEscape, all_noEscape, Option.map_none]
 rfl
theorem gen_indexByte : (Extern.allGenericRows.lookup (Extern.BytealgIndexByte.rows.getD 1 default).1) = none := by kernel_rfl
theorem typed_indexByte : Extern.allTypedRows.lookup (Extern.BytealgIndexByte.rows.getD 1 default).1 = none := by kernel_rfl
theorem all_indexByte : Extern.allRows.lookup (Extern.BytealgIndexByte.rows.getD 1 default).1 = some Extern.BytealgIndexByte.indexByte := by kernel_rfl
theorem find_indexByte {fn : Func} (h : isRow Extern.BytealgIndexByte.rows 1 fn.name = true) : Extern.find fn = some Extern.BytealgIndexByte.indexByte := by
 have e : fn.name = (Extern.BytealgIndexByte.rows.getD 1 default).1 := by
  unfold isRow at h
  split at h
  ·rename_i n r hr
   have h := eq_of_beq h
   rw [← h]
   simp [Extern.BytealgIndexByte.rows] at hr ⊢
   exact hr.1.symm
  ·cases h
 unfold Extern.find
 simp only [e, gen_indexByte, typed_indexByte, all_indexByte, Option.map_none]
 rfl
theorem gen_makeNoZero : (Extern.allGenericRows.lookup (Extern.BytealgMakeNoZero.typedRows.headD default).1) = none := by kernel_rfl
theorem typed_makeNoZero : Extern.allTypedRows.lookup (Extern.BytealgMakeNoZero.typedRows.headD default).1 = some Extern.BytealgMakeNoZero.makeNoZero := by kernel_rfl
theorem find_makeNoZero {fn : Func} (h : isMakeNoZero fn.name = true) : Extern.find fn = some (Extern.BytealgMakeNoZero.makeNoZero fn.params fn.resultTypes) := by
 have e : fn.name = (Extern.BytealgMakeNoZero.typedRows.headD default).1 := by
  have h : (_ == fn.name) = true := h
  exact (eq_of_beq h).symm
 unfold Extern.find
 simp only [e, gen_makeNoZero, typed_makeNoZero, Option.map_none, Option.map_some]
 rfl
theorem find_congr {α : Type} {p q : α → Bool} : ∀ (l : List α), (∀ x ∈ l, p x = q x) → l.find? p = l.find? q
 | [], _ => rfl
 | x :: l, h => by
  rw [List.find?_cons, List.find?_cons, h x (by simp), find_congr l (fun y hy => h y (by simp [hy]))]
theorem findByte_ok (c : Nat) (hc : c < 256) : ∀ (l : List UInt8) (i : Nat), findByte c l.length (enc l) i = ((List.range' i l.length).find? fun j => l[j - i]! == c.toUInt8)
 | [], i => by simp [findByte]
 | b :: l, i => by
  have hb : b.toNat < 256 := b.toNat_lt
  have e1 : enc (b :: l) % 256 = b.toNat := by rw [enc_cons]; omega
  have e2 : enc (b :: l) / 256 = enc l := by rw [enc_cons]; omega
  simp only [List.length_cons, findByte, e1, e2, List.range'_succ, List.find?_cons, Nat.sub_self]
  have e3 : ((b :: l)[0]! == c.toUInt8) = Nat.beq b.toNat c := by
   have : (b :: l)[0]! = b := rfl
   rw [this]
   by_cases h : b.toNat = c
   ·subst h
    simp
   ·rw [(Bool.eq_false_iff.2 (fun e => h (Nat.eq_of_beq_eq_true e)) : Nat.beq b.toNat c = false)]
    simp only [beq_eq_false_iff_ne, ne_eq]
    intro e
    apply h
    rw [e]
    simp only [Nat.toUInt8, UInt8.toNat_ofNat']
    omega
  rw [e3]
  split
  ·rename_i h; rw [h]
  ·rename_i h; rw [h]
   simp only
   rw [findByte_ok c hc l (i + 1)]
   refine find_congr _ ?_
   intro j hj
   have := List.mem_range'.1 hj
   obtain ⟨k, hk, rfl⟩ := this
   have e4 : i + 1 + 1 * k - i = k + 1 := by omega
   have e5 : i + 1 + 1 * k - (i + 1) = k := by omega
   rw [e4, e5]
   rfl
section
variable {P : Program} {m : Map} {w0 : Base} {w : World} {H H' : AHeap} {nx : ANext}
theorem run_sameAddr_apart {a b : Addr} {ca cb : Array Value} {ta tb : TypeId} {fa fb : Nat × Nat} (hne : a.block ≠ b.block) (ha : w.heap[a.block]? = some (.cells ca ta fa)) (hb : w.heap[b.block]? = some (.cells cb tb fb)) (za : w.frozen? a = false) (zb : w.frozen? b = false) (ya : w.frozen? ⟨a.block, ca.size, none⟩ = false) (yb : w.frozen? ⟨b.block, cb.size, none⟩ = false) :
  (sameAddr a b).run P w = .ok false w := by
 simp [sameAddr, hne, za, zb, ya, yb, ha, hb, noView, viewAt, World.shape?, mayBeOne, stringish]
theorem live_ok (F : Fits w0 m H w) {b o g s z : Nat} (hl : liveAt H b o = true) (hm : m[b]? = some (some (g, s, z))) : ∃ ob c t fz, H.get b = some ob ∧ ob.alive = true ∧ w.heap[g]? = some (.cells c t fz) ∧ w.frozen? ⟨g, s + o, none⟩ = false ∧ w.frozen? ⟨g, c.size, none⟩ = false := by
 unfold liveAt at hl
 split at hl
 ·rename_i n t e hb
  rw [Bool.and_eq_true] at hl
  have ho : o < n := Nat.le_of_ble_eq_true hl.1
  obtain ⟨_, c, fz, hc, hz, hsz, hfz, _⟩ := F.row b n t e g s z hb hm
  obtain ⟨⟨rfl, rfl⟩, hun⟩ := F.exact b n t e g s z hb hm hl.2
  have hno : ∀ i, i ≤ z → w.frozen? ⟨g, i, none⟩ = false := fun i hi => by
   have : ¬ (fz.1 ≤ i ∧ i < fz.2) := by
    rcases Nat.lt_or_ge i z with h1 | h1
    ·exact hfz i h1
    ·have : i = z := by omega
     subst this
     exact hun c e fz hc
   simp only [World.frozen?, hc]
   by_cases h1 : fz.1 ≤ i
   ·have h2 : ¬ i < fz.2 := fun h2 => this ⟨h1, h2⟩
    simp [h2]
   ·simp [h1]
  exact ⟨_, c, e, fz, hb, rfl, hc, hno _ (by omega), hno _ (by omega)⟩
 ·cases hl
theorem apart_ok (F : Fits w0 m H w) (op : BinOp) (t : TypeId) (px py : Operand) {x y : AV} {x' y' : Value} (hx : Rel m x x') (hy : Rel m y y') (ha : apartPtr P H t x y = true) (h : (match op with
  | .eql => some (ANext.val (.bool false), H)
  | .neq => some (.val (.bool true), H)
  | _ => none) = some (nx, H')) : PureOK m w H nx H' ((do eqGuard op t px py x' y'; binOp op t x' y').run P w) := by
 unfold apartPtr at ha
 split at ha
 ·rename_i b o b' o'
  simp only [Bool.and_eq_true, Bool.not_eq_true'] at ha
  obtain ⟨h1, h2, h3, h4⟩ := ha
  cases hx with | @ptr _ _ g s z hm =>
  cases hy with | @ptr _ _ g' s' z' hm' =>
  obtain ⟨ob, c, ty, fz, a1, a2, a3, a4, a5⟩ := live_ok F h2 hm
  obtain ⟨ob', c', ty', fz', b1, b2, b3, b4, b5⟩ := live_ok F h3 hm'
  have hbb : b ≠ b' := fun e => by rw [e, Nat.beq_refl] at h1; cases h1
  have hgg : g ≠ g' := fun e => by
   subst e
   exact F.sep b b' ob ob' g s z s' z' hbb a1 b1 a2 b2 hm hm'
  unfold ptrBig at h4
  split at h4
  ·rename_i e hu
   split at h4
   ·rename_i i hi
    have hsz : i.size ≠ 0 := fun e => by rw [e] at h4; cases h4
    have hsa := run_sameAddr_apart (P := P) (a := ⟨g, s + o, none⟩) (b := ⟨g', s' + o', none⟩) hgg a3 b3 a4 b4 a5 b5
    have he : ∀ d : Nat, (Op.equalIn (d + 1) t (.pointer (some ⟨g, s + o, none⟩)) (.pointer (some ⟨g', s' + o', none⟩))).run P w = .ok false w := fun d => by
     simp [Op.equalIn, run_underlying hu, sizeOf, typeInfo, hi, hsz, hsa]
    have hg : ∀ op, (eqGuard op t px py (.pointer (some ⟨g, s + o, none⟩)) (.pointer (some ⟨g', s' + o', none⟩))).run P w = .ok () w := fun op =>
     eqGuard_plain op t px py _ _ (fun l e => by cases e) (.inl (fun e => by cases e)) w
    split at h
    ·refine val_ok (v' := .bool false) h ?_ (.bool false)
     rw [Sem.run_bind, hg, Result.andThen_ok]
     simp only [binOp]
     simp [Op.equal, Op.maxDepth, he 9999]
    ·refine val_ok (v' := .bool true) h ?_ (.bool true)
     rw [Sem.run_bind, hg, Result.andThen_ok]
     simp only [binOp]
     simp [Op.equal, Op.maxDepth, he 9999]
    ·cases h
   ·cases h4
  ·cases h4
 ·cases ha
end
section
variable {P : Program} {m : Map} {w0 : Base} {w : World} {H H' : AHeap} {nx : ANext}
theorem PureOK.op {s : Sem Value} (F : Fits w0 m H w) (h : PureOK m w H nx H' (s.run P w)) : OpPost w0 m H' nx ((do pure (Next.value (← s)) : Sem Next).run P w) := (PureOK.post F h).op
theorem unit_op {s : Sem Unit} (h : ∃ w', nx = .skip ∧ Fits w0 m H' w' ∧ s.run P w = .ok () w') : OpPost w0 m H' nx ((do s; pure .skip : Sem Next).run P w) := by
 obtain ⟨w', rfl, F, hr⟩ := h
 exact ⟨m, w', Ext.refl m, F, by simp [OutRel, hr]⟩
theorem makeFunc_ok {ρ : RhoT} {ρ' : Operand → Value} {fn : Fn} {first captured : Array Operand} (hr : ∀ x ∈ first.toList ++ captured.toList, ∀ v, ρ x = some v → Rel m v (ρ' x)) (h : opMakeFunc ρ H fn first captured = some (nx, H')) : PureOK m w H nx H' ((Instr.makeFunc fn (first.map ρ') (captured.map ρ')).run P w) := by
 unfold opMakeFunc at h
 split at h
 ·split at h
  ·rename_i a b ha hb
   have h1 := args_ok (m := m) _ a (fun x hx => hr x (List.mem_append_left _ hx)) ha
   have h2 := args_ok (m := m) _ b (fun x hx => hr x (List.mem_append_right _ hx)) hb
   refine val_ok h (v' := .func (.func _) ⟨first.toList.map ρ'⟩ ⟨captured.toList.map ρ'⟩) ?_ (.fn h1 h2)
   simp only [Instr.makeFunc, Sem.run_pure]
   congr 2 <;> (apply Array.ext'; simp)
  ·cases h
 ·cases h
theorem hasBody_ok {f : FuncId} (h : hasBody P f = true) (args : Array Value) (w : World) : (callFunc f args).run P w = .ok (.enter f args) w := by
 unfold hasBody at h
 split at h
 ·rename_i fn hf
  simp only [Bool.and_eq_true, Bool.not_eq_true'] at h
  obtain ⟨c, hc⟩ := Option.isSome_iff_exists.1 h.1
  exact Go.MuLone.run_callFunc_enter hf h.2 hc args w
 ·cases h
theorem externA_ok {f : FuncId} {args : List AV} {args' : List Value} (hr : RelL m args args') (h : externA P H f args = some (nx, H')) : ∃ v v', nx = .val v ∧ H' = H ∧ (callFunc f ⟨args'⟩).run P w = .ok (.value v') w ∧ Rel m v v' := by
 unfold externA at h
 split at h
 ·rename_i fn hf
  split at h
  ·rename_i hc
   obtain ⟨h1, h2, h3⟩ := hc
   have h3 : Extern.findNext fn = none := by simpa using h3
   unfold externV at h
   split at h
   ·split at h
    ·rename_i hrow
     simp only [Option.some.injEq, Prod.mk.injEq] at h
     obtain ⟨rfl, rfl⟩ := h
     cases hr with | @cons _ y _ _ hx hr =>
     cases hr
     refine ⟨_, y, rfl, rfl, ?_, hx⟩
     rw [run_callFunc_extern hf h2 h1 h3 (find_noEscape hrow)]
     rfl
    ·cases h
   ·rename_i n v c
    split at h
    ·rename_i hc2
     obtain ⟨hrow, hlt⟩ := hc2
     have hlt := blt_lt hlt
     cases hr with | cons hx hr =>
     cases hr with | cons hy hr =>
     cases hr
     cases hx with | str s e1 e2 =>
     have := rel_int hy
     subst this
     have hrun : (callFunc f ⟨[.string s, .int .u8 (Int.ofNat c)]⟩).run P w = .ok (.value (.int .i64 (firstIdx s c.toUInt8))) w := by
      rw [run_callFunc_extern hf h2 h1 h3 (find_indexByte hrow)]
      have := run_indexByte_string (P := P) s (Int.ofNat c) w
      rw [this]
      rfl
     have hfb := findByte_ok c hlt s.data.toList 0
     rw [e1, e2] at hfb
     have hidx : firstIdx s c.toUInt8 = (match findByte c n v 0 with
       | some i => (i : Int)
       | none => -1) := by
      unfold firstIdx
      rw [hfb]
      have : (List.range s.size).find? (fun i => s[i]! == c.toUInt8) = (List.range' 0 n).find? (fun j => s.data.toList[j - 0]! == c.toUInt8) := by
       rw [List.range_eq_range', size_bytes, e1]
       refine find_congr _ ?_
       intro j hj
       have := List.mem_range'.1 hj
       obtain ⟨k, hk, rfl⟩ := this
       have hk' : k < s.size := by rw [size_bytes, e1]; exact hk
       have hk2 : k < s.data.toList.length := by rw [e1]; exact hk
       have a1 : s[0 + 1 * k]! = s.data.toList[k] := by
        have : 0 + 1 * k = k := by omega
        rw [this, getElem!_pos s k hk']
        rfl
       have a2 : s.data.toList[0 + 1 * k - 0]! = s.data.toList[k] := by
        have : 0 + 1 * k - 0 = k := by omega
        rw [this, getElem!_pos s.data.toList k hk2]
       rw [a1, a2]
      rw [this]
      generalize (List.range' 0 n).find? (fun j => s.data.toList[j - 0]! == c.toUInt8) = q
      cases q <;> rfl
     split at h
     ·rename_i i hi
      simp only [Option.some.injEq, Prod.mk.injEq] at h
      obtain ⟨rfl, rfl⟩ := h
      refine ⟨_, _, rfl, rfl, hrun, ?_⟩
      rw [hidx, hi]
      exact .int .i64 _
     ·rename_i hi
      simp only [Option.some.injEq, Prod.mk.injEq] at h
      obtain ⟨rfl, rfl⟩ := h
      refine ⟨_, _, rfl, rfl, hrun, ?_⟩
      rw [hidx, hi]
      exact .int .i64 _
    ·cases h
   ·cases h
  ·cases h
 ·cases h
theorem sliceData_ok {x : AV} {x' : Value} (hx : Rel m x x') (ts : Array TypeId) (ty : TypeId) (h : opSliceData H x = some (nx, H')) : PureOK m w H nx H' ((Builtin.unsafeSliceData_ ts ty #[x']).run P w) := by
 unfold opSliceData at h
 split at h
 ·rename_i b o n sz
  cases hx with | @sl _ _ _ _ cap g s z hm hn hz =>
  exact val_ok h (Lib.run_unsafeSliceData_row w ts ty _ _ _ (by omega)) (.ptr hm)
 ·cases hx
  exact val_ok h (Lib.run_unsafeSliceData_nil w ts ty 0 0) .nilp
 ·cases h
theorem liesAt_bytes_at {e : TypeId} (hc : P.cellsOf e = 1) (count off n : Nat) (hn : off + n ≤ count) : liesAt P P.depth e count off e n = true := by
 have hd : P.depth = (2 * (P.types.size + Made.depth) + 1) + 1 := rfl
 rw [hd]
 simp only [liesAt, Bool.or_eq_true]
 left
 rw [hd]
 simp [rowAt, hc, hn, sameLayout, Nat.mod_one]
theorem run_unsafeString_at (w : World) (pt it ty e : TypeId) (hp : P.underlying pt = some (.pointer e)) (hc : P.cellsOf e = 1) (g off cells : Nat) (hsh : w.shape? g = some (e, cells)) (l : List UInt8) (h0 : l ≠ []) (hn : off + l.length ≤ cells) (h63 : l.length ≤ 9223372036854775807)
  (k : IntKind) (hcell : ∀ j x, l[j]? = some x → w.cell? ((⟨g, off, none⟩ : Addr).add j) = some (.int .u8 x.toNat)) :
  (Builtin.unsafeString_ #[pt, it] ty #[.pointer (some ⟨g, off, none⟩), .int k l.length]).run P w = .ok (.string ⟨l.toArray⟩) (w.freeze ⟨g, off, none⟩ l.length) := by
 have hl : l.length ≠ 0 := by simpa using h0
 have hlb := Lib.run_loadBytes (P := P) w l ⟨g, off, none⟩ .empty hcell
 have hlies := liesAt_bytes_at (P := P) hc (cells / P.cellsOf e) off l.length (by rw [hc]; simpa using hn)
 have h63' : ¬ (9223372036854775807 : Int) < (l.length : Int) := by omega
 have hdef : Builtin.unsafeString_ #[pt, it] ty #[.pointer (some ⟨g, off, none⟩), .int k l.length] =
   (do
    let n ← asInt (.int k l.length)
    if n < 0 then runtimePanic (.error "unsafe.String: len out of range")
    if n > IntKind.i64.max then unsupported (.unsafePointer "String: a length above the largest int")
    if n = 0 then pure (.string .empty)
    else if ← variablesAt ⟨g, off, none⟩ (← Go.elemOf pt) n.toNat then do
     let s ← loadBytes ⟨g, off, none⟩ .empty n.toNat
     freeze ⟨g, off, none⟩ n.toNat
     pure (.string s)
    else unsupported (.unsafePointer "String: not so many bytes at ptr")) := rfl
 rw [hdef]
 have hmax : IntKind.i64.max = 9223372036854775807 := rfl
 have hneg : ¬ (l.length : Int) < 0 := by omega
 simp [asInt, asIntOf, hmax, h63', hneg, hl, variablesAt, hsh, Go.elemOf, run_underlying hp, hlies, hlb]
theorem freeze_size (w : World) (p : Addr) (n : Nat) : w.heap.size ≤ (w.freeze p n).heap.size := by
 unfold World.freeze
 split
 ·exact Nat.le_refl _
 ·simp
theorem freeze_other (w : World) (p : Addr) (n k : Nat) (h : k ≠ p.block) : (w.freeze p n).heap[k]? = w.heap[k]? := by
 unfold World.freeze
 split
 ·rfl
 ·simp only [Array.getElem?_modify]
  rw [if_neg (fun e => h e.symm)]
theorem Fits.gone (F : Fits w0 m H w) {b n g s z : Nat} {t : T AV} {e : TypeId} {w' : World} (hrow : H.get b = some (.row n t e)) (hm : m[b]? = some (some (g, s, z))) (hb : Below w0.heap.size w0.w w') (hk : ∀ k, k ≠ g → w'.heap[k]? = w.heap[k]?) (hz : w.heap.size ≤ w'.heap.size) : Fits w0 m (H.put b .dead) w' := by
 refine (F.kill (F.lt_next hrow)).world hb (fun b' o' g' s' z' h1 h2 h3 => hk g' (fun eg => ?_)) (fun k o hp => hk k (fun e => (F.pin k o hp).2 b _ s z hrow rfl (by rw [e]; exact hm))) hz
 subst eg
 by_cases eb : b = b'
 ·subst eb; rw [get_put_same] at h1; cases h1; cases h2
 ·rw [get_put_other _ eb] at h1
  exact F.sep b b' _ o' g' s z s' z' eb hrow h1 rfl h2 hm h3
theorem unsafeStr_ok (F : Fits w0 m H w) {pt it ty : TypeId} {x y : AV} {x' y' : Value} (hx : Rel m x x') (hy : Rel m y y') (h : opUnsafeStr P H pt x y = some (nx, H')) : ValPost w0 m H' nx ((Builtin.unsafeString_ #[pt, it] ty #[x', y']).run P w) := by
 have hnone0 : ∀ (q : Option Addr) (k : IntKind), (Builtin.unsafeString_ #[pt, it] ty #[.pointer q, .int k 0]).run P w = .ok (.string .empty) w := fun q k => Lib.run_unsafeString_none w pt it ty q
 unfold opUnsafeStr at h
 split at h
 ·have := rel_int hy; subst this
  cases hx
  exact PureOK.post F (val_ok h (hnone0 _ _) (.str _ rfl rfl))
 ·have := rel_int hy; subst this
  cases hx
  exact PureOK.post F (val_ok h (hnone0 _ _) (.str _ rfl rfl))
 ·rename_i b o k n
  have := rel_int hy; subst this
  cases hx with | @ptr _ _ g s z hm =>
  split at h
  ·rename_i e cs e' hp hcs he'
   split at h
   ·rename_i hc
    obtain ⟨h1, h2, h3⟩ := hc
    have h1 := Nat.eq_of_beq_eq_true h1
    have h2 := Nat.eq_of_beq_eq_true h2
    have h3 := Nat.le_of_ble_eq_true h3
    subst h1
    split at h
    ·rename_i q v hb
     simp only [Option.some.injEq, Prod.mk.injEq] at h
     obtain ⟨rfl, rfl⟩ := h
     obtain ⟨l', r1, r2, r3, r4⟩ := rowGet_ok F hm hcs
     obtain ⟨l, rfl, r5, r6⟩ := bytesA_ok _ _ q v r1 hb
     have hln : l.length = n + 1 := by rw [← r2]; simp [byteCells]
     have hrow : ∃ N t, H.get b = some (.row N t e') := by
      unfold rowType at he'
      split at he'
      ·rename_i N t e2 hr
       simp only [Option.some.injEq] at he'; subst he'
       exact ⟨N, t, hr⟩
      ·cases he'
     obtain ⟨N, t, hrow⟩ := hrow
     obtain ⟨hB, c, fz, hheap, hz, hsz, _, hnone, _⟩ := F.row b N t e' g s z hrow hm
     have hbound : s + o + l.length ≤ z := by
      have hget : rowGet H b o (n + 1) = some cs := hcs
      unfold rowGet at hget
      rw [hrow] at hget
      simp only at hget
      obtain ⟨hl, hg⟩ := T.take_some t (n + 1) o cs hget
      have hlast : o + n < N := by
       rcases Nat.lt_or_ge (o + n) N with h' | h'
       ·exact h'
       ·have e1 := hnone _ h'
        have e2 := hg n (by omega)
        rw [e1, List.getElem?_eq_getElem (by omega)] at e2
        cases e2
      omega
     have hsh : w.shape? g = some (e', z) := by simp [World.shape?, hheap, hz]
     have hcell : ∀ j x, l[j]? = some x → w.cell? ((⟨g, s + o, none⟩ : Addr).add j) = some (.int .u8 x.toNat) := by
      intro j x hj
      rw [Addr.add_mid]
      exact r3 j _ (by simp [byteCells, hj])
     have hrun := run_unsafeString_at w pt it ty e' hp h2 g (s + o) z hsh l (fun e => by rw [e] at hln; simp at hln) hbound (by omega) k hcell
     have hcast : ((n + 1 : Nat) : Int) = (l.length : Int) := by omega
     refine ⟨m, _, _, .string ⟨l.toArray⟩, Ext.refl m, F.gone hrow hm (Lib.below_freeze F.below (p := ⟨g, s + o, none⟩) hB l.length) (fun k hk => freeze_other w _ _ k hk) (freeze_size w _ _), rfl, ?_, .str _ (by simpa using r5) (by simpa using r6)⟩
     change (Builtin.unsafeString_ #[pt, it] ty #[.pointer (some ⟨g, s + o, Option.none⟩), .int k ((n + 1 : Nat) : Int)]).run P w = _
     rw [hcast]
     exact hrun
    ·cases h
   ·cases h
  ·cases h
 ·cases h
theorem gen_clone : (Extern.allGenericRows.lookup (Extern.MapsClone.rows.headD default).1) = none := by kernel_rfl
theorem typed_clone : Extern.allTypedRows.lookup (Extern.MapsClone.rows.headD default).1 = none := by kernel_rfl
theorem all_clone : Extern.allRows.lookup (Extern.MapsClone.rows.headD default).1 = some Extern.MapsClone.clone := by kernel_rfl
theorem find_clone {fn : Func} (h : isMapsClone fn.name = true) : Extern.find fn = some Extern.MapsClone.clone := by
 have e : fn.name = (Extern.MapsClone.rows.headD default).1 := by
  unfold isMapsClone isRow at h
  split at h
  ·rename_i n r hr
   have h := eq_of_beq h
   rw [← h]
   simp [Extern.MapsClone.rows] at hr ⊢
   exact hr.1.symm
  ·cases h
 unfold Extern.find
 simp only [e, gen_clone, typed_clone, all_clone, Option.map_none]
 rfl
theorem cloneM_ok (F : Fits w0 m H w) {f : FuncId} {fn : Func} (hf : P.funcs[f]? = some fn) (h1 : fn.body.isNone = true) (h2 : (fn.name == "runtime.NumGoroutine") = false) (h3 : Extern.findNext fn = none) (h4 : isMapsClone fn.name = true) {args : List AV} {args' : List Value} (hr : RelL m args args') (h : cloneM H args = some (nx, H')) :
  ∃ m' w' v v', Ext m m' ∧ Fits w0 m' H' w' ∧ nx = .val v ∧ (callFunc f ⟨args'⟩).run P w = .ok (.value v') w' ∧ Rel m' v v' := by
 unfold cloneM at h
 split at h
 ·rename_i t b
  split at h
  ·rename_i es hb
   simp only [Option.some.injEq, Prod.mk.injEq] at h
   obtain ⟨rfl, rfl⟩ := h
   cases hr with | cons hi hr =>
   cases hr
   cases hi with | ifc hi =>
   cases hi with | @mp _ g hm =>
   obtain ⟨_, _, _, es', clock, hheap, hrel⟩ := F.map b es _ _ _ hb hm
   have Fa := F.alloc (.map es' clock)
   have hgo := run_getObj_map (P := P) hheap
   refine ⟨_, w.alloc (.map es' clock), _, .iface t (.map (some w.heap.size)), Ext.append m _, Fa.new (.map es) (g := w.heap.size) (s := 0) (z := 0) (fun b o' s' z' h1 h2 h3 => ?_) (fun n t e he => by cases he) (fun es2 he => ?_) (fun n t e he => by cases he) (hpin := fun k o' hk _ => by have := heap_lt (F.pin k o' hk).1; omega), rfl, ?_, ?_⟩
   ·have := F.mapped_lt h1 h2 h3; omega
   ·cases he
    exact ⟨rfl, rfl, F.size, es', clock, heap_alloc_new w _, hrel.mono (Map.le_append m _)⟩
   ·rw [run_callFunc_extern hf h2 h1 h3 (find_clone h4)]
    have hdef : Extern.MapsClone.clone #[.iface t (.map (some g))] = (do
      let .map entries clock ← getObj g | stuck "maps.clone: a map expected"
      pure (.iface t (.map (some (← newObj (.map entries clock)))))) := rfl
    rw [show (⟨[Value.iface t (.map (some g))]⟩ : Array Value) = #[.iface t (.map (some g))] from rfl, hdef]
    simp [hgo]
   ·exact .ifc (.mp (map_new F _))
  ·cases h
 ·cases h
theorem externM_ok (F : Fits w0 m H w) {f : FuncId} {args : List AV} {args' : List Value} (hr : RelL m args args') (h : externM P H f args = some (nx, H')) :
  ∃ m' w' v v', Ext m m' ∧ Fits w0 m' H' w' ∧ nx = .val v ∧ (callFunc f ⟨args'⟩).run P w = .ok (.value v') w' ∧ Rel m' v v' := by
 unfold externM at h
 split at h
 ·rename_i fn hf
  split at h
  ·rename_i hc
   obtain ⟨h1, h2, h3⟩ := hc
   have h3 : Extern.findNext fn = none := by simpa using h3
   split at h
   case isFalse =>
    split at h
    ·rename_i h4
     exact cloneM_ok F hf h1 h2 h3 h4 hr h
    ·cases h
   rename_i h4
   unfold makeZ at h
   split at h
   ·rename_i n
    split at h
    ·rename_i t ht
     split at h
     ·rename_i e he
      split at h
      ·rename_i hn
       obtain ⟨hn, hx⟩ := hn
       have hn := Nat.le_of_ble_eq_true hn
       simp only [Option.some.injEq, Prod.mk.injEq] at h
       obtain ⟨rfl, rfl⟩ := h
       cases hr with | cons hi hr =>
       cases hr
       have := rel_int hi
       subst this
       obtain ⟨cs, hrun, hle, _⟩ := Lib.run_makeNoZero (P := P) w fn.params t e (elemOf_ok he) n (by omega)
       have hdef : ∀ res : Array TypeId, Extern.BytealgMakeNoZero.makeNoZero fn.params res #[.int .i64 (n : Int)] = (do
         let some t := res[0]? | stuck "bytealg.MakeNoZero: no result type"
         let .slice elem ← underlying t | stuck "bytealg.MakeNoZero: slice type expected"
         if (n : Int) < 0 || (n : Int) > 2 ^ 48 then runtimePanic (.error "makeslice: len out of range")
         let cap ← choose (.appendCap (n : Int).toNat 0 elem)
         askRoom cap
         let bytes ← choose (.extern "internal/bytealg.MakeNoZero.bytes" 0)
         let a ← newRow elem (Extern.BytealgMakeNoZero.digits cap bytes #[])
         pure (.slice (some a) (n : Int).toNat cap)) := fun _ => rfl
       have hdo : Extern.BytealgMakeNoZero.makeNoZero fn.params fn.resultTypes #[.int .i64 (n : Int)] = Extern.BytealgMakeNoZero.makeNoZero fn.params #[t] #[.int .i64 (n : Int)] := by
        rw [hdef, hdef, ht]
        rfl
       have hcall : (callFunc f ⟨[.int .i64 (Int.ofNat n)]⟩).run P w = .ok (.value (.slice (some ⟨w.heap.size, 0, none⟩) n cs.size)) (w.drew.drew.alloc (.cells cs e)) := by
        rw [run_callFunc_extern hf h2 h1 h3 (find_makeNoZero h4)]
        rw [show (⟨[Value.int .i64 (Int.ofNat n)]⟩ : Array Value) = #[.int .i64 (n : Int)] from rfl, hdo, hrun]
        rfl
       have Fa := (F.drew.drew).alloc (.cells cs e)
       have hmap : (m ++ [some (w.heap.size, 0, cs.size)])[H.next]? = some (some (w.heap.size, 0, cs.size)) := map_new F _
       refine ⟨m ++ [some (w.heap.size, 0, cs.size)], _, _, _, Ext.append m _, ?_, rfl, hcall, .sl hmap hle (by omega)⟩
       refine Fa.new (rowOf [] e) ?_ ?_ (fun es h => by unfold rowOf at h; cases h) ?_ (hpin := fun k o' hk _ => by have := heap_lt (F.pin k o' hk).1; omega)
       ·intro b o' s' z' hb ho hm
        have := F.mapped_lt hb ho hm
        omega
       ·intro n' t' e' h
        unfold rowOf at h
        cases h
        refine ⟨F.size, cs, (0, 0), heap_alloc_new w.drew.drew _, rfl, Nat.zero_le _, fun i _ => by simp, fun i _ => T.get_e i, fun i hi => absurd hi (Nat.not_lt_zero i)⟩
       ·intro n' t' e' h hex
        unfold rowOf at h
        cases h
        rw [hx] at hex; cases hex
      ·cases h
     ·cases h
    ·cases h
   ·cases h
  ·cases h
 ·cases h
theorem builtin_ok (F : Fits w0 m H w) {b : Builtin} {ts : Array TypeId} {ty : TypeId} {cs : Array Bool} {args : List AV} {args' : List Value} (hr : RelL m args args') (h : builtinA P b ts args H = some (nx, H')) : OpPost w0 m H' nx ((Go.builtin b ts ty cs ⟨args'⟩).run P w) := by
 have hts : ∀ {t : TypeId} {l : List TypeId}, ts.toList = t :: l → ts[0]? = some t := by
  intro t l e; rw [← Array.getElem?_toList, e]; rfl
 have hts1 : ∀ {t u : TypeId} {l : List TypeId}, ts.toList = t :: u :: l → ts[1]? = some u := by
  intro t u l e; rw [← Array.getElem?_toList, e]; rfl
 unfold builtinA at h
 split at h
 ·split at h
  ·rename_i x t l e
   cases hr with | cons hx hr =>
   cases hr
   exact (len_ok F hx ts ty (hts e) h).op F
  ·cases h
 ·split at h
  ·rename_i s x t u l e
   cases hr with | cons hx hr =>
   cases hr with | cons hy hr =>
   cases hr
   exact (append_ok F hx hy ts ty (hts e) (hts1 e) h).op
  ·cases h
 ·split at h
  ·rename_i d s t l e
   cases hr with | cons hx hr =>
   cases hr with | cons hy hr =>
   cases hr
   exact (copy_ok F hx hy ts ty (hts e) h).op
  ·cases h
 ·split at h
  ·rename_i x t l e
   cases hr with | cons hx hr =>
   cases hr
   exact (clear_ok F hx ts ty (hts e) h).op
  ·cases h
 ·split at h
  ·rename_i m k t l e
   cases hr with | cons hx hr =>
   cases hr with | cons hy hr =>
   cases hr
   exact (delete_ok F hx hy ts ty (hts e) h).op
  ·cases h
 ·split at h
  ·rename_i k a rest
   cases hr with | cons hx hr =>
   have := rel_int hx; subst this
   refine PureOK.op F (s := Builtin.max_ ts ty _) ?_
   unfold outV at h
   split at h
   ·rename_i v hv
    obtain ⟨v', h1, h2⟩ := maxInts_ok (P := P) (w := w) k _ _ a v hr hv
    exact val_ok h h1 h2
   ·cases h
  ·cases h
 ·split at h
  ·rename_i k a rest
   cases hr with | cons hx hr =>
   have := rel_int hx; subst this
   refine PureOK.op F (s := Builtin.min_ ts ty _) ?_
   unfold outV at h
   split at h
   ·rename_i v hv
    obtain ⟨v', h1, h2⟩ := minInts_ok (P := P) (w := w) k _ _ a v hr hv
    exact val_ok h h1 h2
   ·cases h
  ·cases h
 ·split at h
  ·rename_i t v
   cases hr with | cons hx hr =>
   cases hr
   simp only [Option.some.injEq, Prod.mk.injEq] at h
   obtain ⟨rfl, rfl⟩ := h
   cases hx with | @ifc _ _ v' hv =>
   exact ⟨m, w, Ext.refl m, F, .iface t v', by simp [Go.builtin, Instr.panic], .ifc hv⟩
  ·cases h
 ·split at h
  ·rename_i x
   cases hr with | cons hx hr =>
   cases hr
   exact (sliceData_ok hx ts ty h).op F
  ·cases h
 ·split at h
  ·rename_i x n pt it e
   cases hr with | cons hx hr =>
   cases hr with | cons hy hr =>
   cases hr
   have ets : ts = #[pt, it] := by apply Array.ext'; simpa using e
   subst ets
   exact (unsafeStr_ok F hx hy h).op
  ·cases h
 ·split at h
  ·rename_i t l e
   split at h
   ·rename_i el hel
    cases hr with | cons hx hr =>
    cases hr
    cases hx
    simp only [Option.some.injEq, Prod.mk.injEq] at h
    obtain ⟨rfl, rfl⟩ := h
    refine PureOK.op F (s := Builtin.cap_ ts ty _) ?_
    exact ⟨_, .int .i64 0, rfl, rfl, by simp [Builtin.cap_, hts e, run_underlying (elemOf_ok hel), goInt], .int .i64 _⟩
   ·cases h
  ·cases h
 ·cases h
theorem argsA_map {ρ : RhoT} {ρ' : Operand → Value} {args : Array Operand} {as : List AV} (hr : ∀ x ∈ args.toList, ∀ v, ρ x = some v → Rel m v (ρ' x)) (h : argsA ρ args.toList = some as) : args.map ρ' = ⟨args.toList.map ρ'⟩ ∧ RelL m as (args.toList.map ρ') :=
 ⟨by apply Array.ext'; simp, args_ok _ as hr h⟩
theorem call_ok (F : Fits w0 m H w) {ρ : RhoT} {ρ' : Operand → Value} {c : Call} {ty : TypeId} (hr : ∀ x ∈ c.operands.toList, ∀ v, ρ x = some v → Rel m v (ρ' x)) (h : opCall P ρ H c = some (nx, H')) : OpPost w0 m H' nx ((do let d ← resolve ρ' c ty; invoke d.target d.args : Sem Next).run P w) := by
 unfold opCall at h
 split at h
 ·rename_i args ha
  obtain ⟨he, hra⟩ := argsA_map (m := m) (ρ' := ρ') (fun x hx => hr x (by simp only [Call.operands]; simp [hx])) ha
  split at h
  ·rename_i b hb
   have := builtin_ok (ty := ty) (cs := c.args.map fun | .const _ => true | _ => false) F hra h
   simp only [resolve, hb, he, Sem.run_bind, Sem.run_pure, Result.andThen_ok, invoke]
   exact this
  ·cases h
  ·rename_i f hf
   unfold callV at h
   split at h
   ·rename_i g a b e
    split at h
    ·rename_i hbody
     simp only [Option.some.injEq, Prod.mk.injEq] at h
     obtain ⟨rfl, rfl⟩ := h
     have hrf := hr f (by simp [Call.operands, hf]) _ e
     generalize hv : ρ' f = vf at hrf
     cases hrf with | @fn _ _ _ l' c' h1 h2 =>
     refine ⟨m, w, Ext.refl m, F, l' ++ c.args.toList.map ρ' ++ c', ?_, (h1.append hra).append h2⟩
     simp only [resolve, hf, he, hv, Deferred.ofValue, Sem.run_bind, Sem.run_pure, Result.andThen_ok, invoke]
     have : (⟨l'⟩ ++ ⟨c.args.toList.map ρ'⟩ ++ ⟨c'⟩ : Array Value) = ⟨l' ++ c.args.toList.map ρ' ++ c'⟩ := by simp
     rw [this]
     exact hasBody_ok hbody _ w
    ·split at h
     ·have hrf := hr f (by simp [Call.operands, hf]) _ e
      generalize hv : ρ' f = vf at hrf
      cases hrf with | @fn _ _ _ l' c' h1 h2 =>
      obtain ⟨m', w', v, v', hx, F', rfl, hrun, hvr⟩ := externM_ok (P := P) F ((h1.append hra).append h2) h
      refine ⟨m', w', hx, F', v', ?_, hvr⟩
      simp only [resolve, hf, he, hv, Deferred.ofValue, Sem.run_bind, Sem.run_pure, Result.andThen_ok, invoke]
      have : (⟨l'⟩ ++ ⟨c.args.toList.map ρ'⟩ ++ ⟨c'⟩ : Array Value) = ⟨l' ++ c.args.toList.map ρ' ++ c'⟩ := by simp
      rw [this]
      exact hrun
     have hrf := hr f (by simp [Call.operands, hf]) _ e
     generalize hv : ρ' f = vf at hrf
     cases hrf with | @fn _ _ _ l' c' h1 h2 =>
     obtain ⟨v, v', rfl, rfl, hrun, hvr⟩ := externA_ok (P := P) (w := w) ((h1.append hra).append h2) h
     refine ⟨m, w, Ext.refl m, F, v', ?_, hvr⟩
     simp only [resolve, hf, he, hv, Deferred.ofValue, Sem.run_bind, Sem.run_pure, Result.andThen_ok, invoke]
     have : (⟨l'⟩ ++ ⟨c.args.toList.map ρ'⟩ ++ ⟨c'⟩ : Array Value) = ⟨l' ++ c.args.toList.map ρ' ++ c'⟩ := by simp
     rw [this]
     exact hrun
   ·rename_i b e
    unfold yieldV at h
    split at h
    ·rename_i r hb
     split at h
     ·rename_i hlen
      simp only [Option.some.injEq, Prod.mk.injEq] at h
      obtain ⟨rfl, rfl⟩ := h
      have hrf := hr f (by simp [Call.operands, hf]) _ e
      generalize hv : ρ' f = vf at hrf
      cases hrf with | @yld _ g hm =>
      obtain ⟨_, _, _, r', h1, h2, h3, h4, h5, h6, h7, h8, h9⟩ := F.obj _ _ _ _ _ hb hm
      have hlen := Nat.eq_of_beq_eq_true hlen
      refine ⟨m, w, Ext.refl m, F, g, r', c.args.toList.map ρ', hm, h1, by rw [h6]; exact hlen, hra, ?_⟩
      simp only [resolve, hf, he, hv, Deferred.ofValue, Sem.run_bind, Sem.run_pure, Result.andThen_ok, invoke]
      have h10 := run_yield (P := P) (args := ⟨c.args.toList.map ρ'⟩) h1 (by rw [h6, ← hlen, hra.length]; simp)
      simpa using h10
     ·cases h
    ·cases h
   ·cases h
 ·cases h
theorem defer_ok (F : Fits w0 m H w) {ρ : RhoT} {ρ' : Operand → Value} {c : Call} {ty : TypeId} (hr : ∀ x ∈ c.operands.toList, ∀ v, ρ x = some v → Rel m v (ρ' x)) (h : opDefer P ρ H c = some (nx, H')) : OpPost w0 m H' nx ((do pure (.defer (← resolve ρ' c ty)) : Sem Next).run P w) := by
 unfold opDefer at h
 split at h
 ·rename_i args ha
  obtain ⟨he, hra⟩ := argsA_map (m := m) (ρ' := ρ') (fun x hx => hr x (by simp only [Call.operands]; simp [hx])) ha
  split at h
  ·rename_i f hf
   unfold deferV at h
   split at h
   ·rename_i g a b e
    split at h
    ·rename_i hbody
     simp only [Option.some.injEq, Prod.mk.injEq] at h
     obtain ⟨rfl, rfl⟩ := h
     have hrf := hr f (by simp [Call.operands, hf]) _ e
     generalize hv : ρ' f = vf at hrf
     cases hrf with | @fn _ _ _ l' c' h1 h2 =>
     refine ⟨m, w, Ext.refl m, F, l' ++ c.args.toList.map ρ', c', ?_, h1.append hra, h2⟩
     simp only [resolve, hf, he, hv, Deferred.ofValue, Sem.run_bind, Sem.run_pure, Result.andThen_ok]
     simp
    ·cases h
   ·cases h
  ·cases h
 ·cases h
theorem opA_ok (F : Fits w0 m H w) {ρ : RhoT} {ρ' : Operand → Value} (o : Oper) (hr : ∀ x ∈ o.op.operands.toList, ∀ v, ρ x = some v → Rel m v (ρ' x)) (h : opA P ρ o H = some (nx, H')) : OpPost w0 m H' nx ((execOp ρ' o).run P w) := by
 obtain ⟨dst, op, ty, pos, after, guard⟩ := o
 unfold opA opTable at h
 simp only at h hr
 cases op
 case move x =>
  simp only [do_move] at h
  have := outV_ok (m := m) (w := w) (r := .ok (ρ' x) w) (x' := ρ' x) h (fun v hv => ⟨rfl, hr x (by simp [Op.operands]) v hv⟩)
  exact PureOK.op (P := P) (s := pure (ρ' x)) F this
 case assign x =>
  simp only [do_assign] at h
  have := outV_ok (m := m) (w := w) (r := .ok (ρ' x) w) (x' := ρ' x) h (fun v hv => ⟨rfl, hr x (by simp [Op.operands]) v hv⟩)
  exact PureOK.op (P := P) (s := pure (ρ' x)) F this
 case pick c a b =>
  simp only [do_pick, opPick] at h
  split at h
  ·rename_i e
   have hc := rel_bool (hr c (by simp [Op.operands]) _ e)
   have := outV_ok (m := m) (w := w) (r := .ok (ρ' a) w) (x' := ρ' a) h (fun v hv => ⟨rfl, hr a (by simp [Op.operands]) v hv⟩)
   have := PureOK.op (P := P) (s := pure (ρ' a)) F this
   simp only [execOp, hc, asBool]
   exact this
  ·rename_i e
   have hc := rel_bool (hr c (by simp [Op.operands]) _ e)
   have := outV_ok (m := m) (w := w) (r := .ok (ρ' b) w) (x' := ρ' b) h (fun v hv => ⟨rfl, hr b (by simp [Op.operands]) v hv⟩)
   have := PureOK.op (P := P) (s := pure (ρ' b)) F this
   simp only [execOp, hc, asBool]
   exact this
  ·cases h
 case alloc e => exact (alloc_ok F h).op
 case box e x => exact (box_ok F (fun v hv => hr x (by simp [Op.operands]) v hv) h).op
 case build t ps => exact (build_ok (fun x hx v hv => hr x (by simpa [Op.operands] using hx) v hv) h).op F
 case buildSlice t n ps => exact (buildSlice_ok F (fun x hx v hv => hr x (by simpa [Op.operands] using hx) v hv) h).op
 case insert t m' k x => exact unit_op (mapUpdate_ok F (fun v hv => hr m' (by simp [Op.operands]) v hv) (fun v hv => hr k (by simp [Op.operands]) v hv) (fun v hv => hr x (by simp [Op.operands]) v hv) h)
 case load t a => exact (load_ok F (fun v hv => hr a (by simp [Op.operands]) v hv) h).op F
 case store t a x => exact unit_op (store_ok F (fun v hv => hr a (by simp [Op.operands]) v hv) (fun v hv => hr x (by simp [Op.operands]) v hv) h)
 case ready g => cases h
 case waits g => cases h
 case nilCheck x =>
  obtain ⟨v, v', rfl, rfl, h1, h2⟩ := nil_check_ok (P := P) (w := w) (x' := ρ' x) (fun v hv => hr x (by simp [Op.operands]) v hv) h ⟨dst, .nilCheck x, ty, pos, after, guard⟩ x ρ' rfl rfl
  exact ⟨m, w, Ext.refl m, F, v', h1, h2⟩
 case binOp op t x y p =>
  simp only [do_binOp, opBinV] at h
  split at h
  ·rename_i a b ha hb
   split at h
   ·rename_i hap
    exact PureOK.op F (apart_ok F op t x y (hr x (by simp [Op.operands]) _ ha) (hr y (by simp [Op.operands]) _ hb) (Bool.and_eq_true_iff.1 hap).2 h)
   ·simp only [opBin] at h
    unfold outV at h
    split at h
    ·rename_i v hv
     obtain ⟨v', h1, h2⟩ := binA_ok op t x y a b (ρ' x) (ρ' y) (hr x (by simp [Op.operands]) _ ha) (hr y (by simp [Op.operands]) _ hb) v hv w
     exact PureOK.op F (val_ok h h1 h2)
    ·cases h
  ·cases h
 case unOp op t x => exact (un_ok (fun v hv => hr x (by simp [Op.operands]) v hv) h).op F
 case convert s d x => exact (conv_ok F (fun v hv => hr x (by simp [Op.operands]) v hv) h).op
 case sliceToArrayPointer => cases h
 case makeInterface t x => exact (iface_ok (fun v hv => hr x (by simp [Op.operands]) v hv) h).op F
 case makeFunc fn a b => exact (makeFunc_ok (fun x hx v hv => hr x (by simpa [Op.operands] using hx) v hv) h).op F
 case makeMap t r => exact (makeMap_ok F h).op
 case makeChan => cases h
 case makeSlice t a b => exact (makeSlice_ok F (fun v hv => hr a (by simp [Op.operands]) v hv) (fun v hv => hr b (by simp [Op.operands]) v hv) h).op
 case slice t x lo hi mx => exact (slice_ok F (fun o ho v hv => hr o (by
  rcases ho with rfl | rfl | rfl | rfl <;> simp [Op.operands]) v hv) h).op F
 case fieldAddr s x f => exact (fieldAddr_ok (fun v hv => hr x (by simp [Op.operands]) v hv) h).op F
 case field t x f => exact (field_ok (fun v hv => hr x (by simp [Op.operands]) v hv) h).op F
 case indexAddr t x i => exact (indexAddr_ok (fun v hv => hr x (by simp [Op.operands]) v hv) (fun v hv => hr i (by simp [Op.operands]) v hv) h).op F
 case index t x i => exact (index_ok (fun v hv => hr x (by simp [Op.operands]) v hv) (fun v hv => hr i (by simp [Op.operands]) v hv) h).op F
 case lookup t x i ok => exact (lookup_ok F (fun v hv => hr x (by simp [Op.operands]) v hv) (fun v hv => hr i (by simp [Op.operands]) v hv) h).op F
 case mapUpdate t m' k x => exact unit_op (mapUpdate_ok F (fun v hv => hr m' (by simp [Op.operands]) v hv) (fun v hv => hr k (by simp [Op.operands]) v hv) (fun v hv => hr x (by simp [Op.operands]) v hv) h)
 case mapEntry => cases h
 case entryStore => cases h
 case range => cases h
 case next => cases h
 case entry => cases h
 case typeAssert x u t ok => exact (assert_ok (fun v hv => hr x (by simp [Op.operands]) v hv) h).op F
 case extract t i => exact (extract_ok (fun v hv => hr t (by simp [Op.operands]) v hv) h).op F
 case call c => exact call_ok F (fun x hx v hv => hr x hx v hv) h
 case go => cases h
 case defer c => exact defer_ok F (fun x hx v hv => hr x hx v hv) h
 case panic x =>
  simp only [do_panic, opPanic] at h
  split at h
  ·rename_i t v e
   simp only [Option.some.injEq, Prod.mk.injEq] at h
   obtain ⟨rfl, rfl⟩ := h
   have hx := hr x (by simp [Op.operands]) _ e
   generalize hv : ρ' x = vx at hx
   cases hx with | @ifc _ _ v' hv' =>
   exact ⟨m, w, Ext.refl m, F, .iface t v', by simp [execOp, Instr.panic, hv], .ifc hv'⟩
  ·cases h
 case send => cases h
 case recv => cases h
 case select => cases h
end
end
end Go.Proofs.Ytpnccmlajhhpdaa.Abs
namespace Go.Proofs.Ytpnccmlajhhpdaa.Abs
noncomputable section
section
variable {P : Program} {m : Map} {w0 : Base} {w : World} {H H' : AHeap} {nx : ANext}
inductive RelD (m : Map) : List (FuncId × List AV × List AV) → List Deferred → Prop
 | nil : RelD m [] []
 | cons {f : FuncId} {args cap : List AV} {args' cap' : List Value} {l : List (FuncId × List AV × List AV)} {l' : List Deferred} (h : RelL m args args') (k : RelL m cap cap') (r : RelD m l l') :
  RelD m ((f, args, cap) :: l) ({ target := .fn (.func f) ⟨cap'⟩, args := ⟨args'⟩ } :: l')
 | mark {b g : Nat} {l : List (FuncId × List AV × List AV)} {l' : List Deferred} (h : m[b]? = some (some (g, 0, 0))) (r : RelD m l l') : RelD m ((0, [], [.mrk b]) :: l) ({ target := .collected g, args := #[] } :: l')
theorem RelD.mono {m m' : Map} (hm : Map.le m m') {l : List (FuncId × List AV × List AV)} {l' : List Deferred} (h : RelD m l l') : RelD m' l l' := by
 induction h with
 | nil => exact .nil
 | cons h k _ ih => exact .cons (h.mono hm) (k.mono hm) ih
 | mark h _ ih => exact .mark (hm _ _ h) ih
theorem RelD.append {l k : List (FuncId × List AV × List AV)} {l' k' : List Deferred} (h : RelD m l l') (g : RelD m k k') : RelD m (l ++ k) (l' ++ k') := by
 induction h with
 | nil => exact g
 | cons h k _ ih => exact .cons h k ih
 | mark h _ ih => exact .mark h ih
def Slot (m : Map) (a : AAct) (act : Act) (t : Nat) : Prop := ∀ v, a.tmps.get t = some v → ∃ v', act.tmps[t]? = some v' ∧ Rel m v v'
structure RelAct (m : Map) (N : Nat) (a : AAct) (act : Act) : Prop where
 size : act.tmps.size = N
 tmps : ∀ t, Slot m a act t
 defers : RelD m a.defers act.defers
theorem Slot.mono {m m' : Map} (hm : Map.le m m') {a : AAct} {act : Act} {t : Nat} (h : Slot m a act t) : Slot m' a act t := fun v hv => by
 obtain ⟨v', h1, h2⟩ := h v hv
 exact ⟨v', h1, h2.mono hm⟩
theorem RelAct.mono {m m' : Map} (hm : Map.le m m') {N : Nat} {a : AAct} {act : Act} (h : RelAct m N a act) : RelAct m' N a act := ⟨h.size, fun t => (h.tmps t).mono hm, h.defers.mono hm⟩
theorem eval_ok {a : AAct} {act : Act} {x : Operand} (hs : ∀ t, x = .tmp t → Slot m a act t) : ∀ v, a.eval x = some v → Rel m v (act.eval x) := by
 intro v hv
 cases x with
 | tmp t =>
  obtain ⟨v', h1, h2⟩ := hs t rfl v hv
  simp only [Act.eval, Array.getD_eq_getD_getElem?, h1, Option.getD_some]
  exact h2
 | const c => exact ofVal_rel m c v hv
 | global g =>
  simp only [AAct.eval, Option.some.injEq] at hv; subst hv
  exact .gptr g 0
 | func f =>
  simp only [AAct.eval, Option.some.injEq] at hv; subst hv
  exact .fn .nil .nil
theorem mem_tmps {t : Nat} : ∀ {l : List Operand}, Operand.tmp t ∈ l → t ∈ tmpsOf l
 | x :: l, h => by
  rcases List.mem_cons.1 h with rfl | h
  ·simp [tmpsOf]
  ·have := mem_tmps h
   cases x <;> simp [tmpsOf, this]
theorem rel_notbool {v : AV} {b : Bool} (h : Rel m v (.bool b)) : v = .bool b := by cases h; rfl
theorem wanted_ok {ops : Array Oper} {a : AAct} {act : Act} {o : Oper} {b : Bool} (hs : ∀ t ∈ guardTmp ops o.guard, Slot m a act t) (h : wantedT ops a.tmps.get o.guard = some b) : Region.wanted o (yielded ops act.tmps) = b := by
 unfold wantedT at h
 unfold Region.wanted
 split at h
 ·rename_i hg
  rw [hg]
  simpa using h
 ·rename_i j want hg
  rw [hg] at hs ⊢
  simp only [yielded]
  split at h
  ·rename_i o' ho'
   split at h
   ·rename_i d hd
    have hdst : dstAt ops j = some d := by simp [dstAt, ho', hd]
    have hslot := hs d (by simp [guardTmp, hdst])
    split at h
    ·rename_i b' hb'
     obtain ⟨v', h1, h2⟩ := hslot _ hb'
     have := rel_bool h2; subst this
     simp only [Option.some.injEq] at h
     simp [ho', hd, h1, ← h]
    ·rename_i v hnb hv
     obtain ⟨v', h1, h2⟩ := hslot _ hv
     simp only [Option.some.injEq] at h; subst h
     simp only [ho', Option.bind_some, hd, h1]
     split
     ·rename_i b' e
      cases e
      exact absurd (rel_notbool h2) (hnb b')
     ·rfl
    ·cases h
   ·rename_i hd
    simp only [Option.some.injEq] at h; subst h
    simp [ho', hd]
  ·rename_i ho'
   simp only [Option.some.injEq] at h; subst h
   simp [ho']
def RetOK (w0 : Base) (m : Map) (h' : AHeap) (r : ARes) (e : Ending) (w' : World) : Prop := ∃ m', Ext m m' ∧ Fits w0 m' h' w' ∧ match r with
 | .ret v => ∃ v', e = .returned v' ∧ Rel m' v v'
 | .panic v => ∃ v', e = .panicked [{ v := v', recovered := false }] ∧ Rel m' v v'
def CallOK (P : Program) (w0 : Base) (call : CallF) : Prop := ∀ (f : FuncId) (args : List AV) (h : AHeap) (r : ARes) (h' : AHeap), call f args h = some (r, h') →
 ∀ (m : Map) (w : World) (args' : List Value), RelL m args args' → Fits w0 m h w → Calls P f ⟨args'⟩ w (RetOK w0 m h' r)
theorem upon_ok {call : CallF} (hc : CallOK P w0 call) {a : AAct} {act : Act} {o : Oper} {st : AStep} {r : Result Next} {K : Act → World → Prop} {Q : Exit → Act → World → Prop}
  (hp : OpPost w0 m H' nx r) (h : stepOut call a o.dst (some (nx, H')) = some st)
  (hgo : ∀ (a' : AAct) (h' : AHeap), st = .go a' h' → ∀ (m' : Map) (w' : World) (v : AV) (v' : Value) (ds : List (FuncId × List AV × List AV)) (ds' : List Deferred), Ext m m' → Fits w0 m' h' w' → Rel m' v v' → a' = (⟨a.tmps, ds ++ a.defers⟩ : AAct).put o.dst v → RelD m' ds ds' →
   K (({ act with defers := ds' ++ act.defers } : Act).put o.dst v') w')
  (hpn : ∀ (v : AV) (h' : AHeap), st = .panic v h' → ∀ (m' : Map) (w' : World) (v' : Value), Ext m m' → Fits w0 m' h' w' → Rel m' v v' → Q (.panic [{ v := v', recovered := false }]) act w') :
  o.upon P act K Q r := by
 obtain ⟨m', w', he, F, ho⟩ := hp
 unfold stepOut at h
 split at h
 ·rename_i e
  cases e
  obtain ⟨v', rfl, hv⟩ := ho
  simp only [stepPut, Option.some.injEq] at h
  exact hgo _ _ h.symm m' w' _ v' [] [] he F hv rfl .nil
 ·rename_i e
  cases e
  simp only [OutRel] at ho; subst ho
  simp only [stepPut, Option.some.injEq] at h
  exact hgo _ _ h.symm m' w' _ _ [] [] he F (.tup .nil) rfl .nil
 ·rename_i f args h1 e
  cases e
  obtain ⟨args', rfl, hr⟩ := ho
  unfold stepRes at h
  split at h
  ·rename_i v h2 hcall
   refine Calls.mono (hc _ _ _ _ _ hcall m' w' args' hr F) ?_
   rintro e w'' ⟨m'', he2, F2, v', rfl, hv⟩
   simp only [stepPut, Option.some.injEq] at h
   exact hgo _ _ h.symm m'' w'' _ v' [] [] (he.trans he2) F2 hv rfl .nil
  ·rename_i v h2 hcall
   refine Calls.mono (hc _ _ _ _ _ hcall m' w' args' hr F) ?_
   rintro e w'' ⟨m'', he2, F2, v', rfl, hv⟩
   simp only [Option.some.injEq] at h
   exact hpn _ _ h.symm m'' w'' v' (he.trans he2) F2 hv
  ·cases h
 ·rename_i v h1 e
  cases e
  obtain ⟨v', rfl, hv⟩ := ho
  simp only [Option.some.injEq] at h
  exact hpn _ _ h.symm m' w' v' he F hv
 ·rename_i f args cap h1 e
  cases e
  obtain ⟨args', cap', rfl, hr, hr2⟩ := ho
  simp only [stepPut, Option.some.injEq] at h
  exact hgo _ _ h.symm m' w' _ _ [(f, args, cap)] [_] he F (.tup .nil) rfl (.cons hr hr2 .nil)
 ·cases h
 ·cases h
theorem put_slot {a : AAct} {act : Act} {d : Option Tmp} {v : AV} {v' : Value} {N : Nat} (hN : act.tmps.size = N) (hd : ∀ t, d = some t → t < N) (hv : Rel m v v') {t : Nat} (h : d ≠ some t → Slot m a act t) : Slot m (a.put d v) (act.put d v') t := by
 intro u hu
 cases d with
 | none => exact h (by simp) u hu
 | some s =>
  by_cases e : s = t
  ·subst e
   simp only [AAct.put, T.get_set_same, Option.some.injEq] at hu; subst hu
   have := hd s rfl
   exact ⟨v', by simp [Act.put, hN, this], hv⟩
  ·simp only [AAct.put, T.get_set_other _ _ e] at hu
   obtain ⟨v2, h1, h2⟩ := h (by simp; exact e) u hu
   exact ⟨v2, by simp only [Act.put]; rw [Array.getElem?_setIfInBounds_ne e]; exact h1, h2⟩
theorem put_size {act : Act} (d : Option Tmp) (v : Value) : (act.put d v).tmps.size = act.tmps.size := by cases d <;> simp [Act.put]
theorem put_defersA (a : AAct) (d : Option Tmp) (v : AV) : (a.put d v).defers = a.defers := by cases d <;> rfl
theorem put_defersV (a : Act) (d : Option Tmp) (v : Value) : (a.put d v).defers = a.defers := by cases d <;> rfl
theorem RelAct.put {N : Nat} {a : AAct} {act : Act} (h : RelAct m N a act) {d : Option Tmp} (hd : ∀ t, d = some t → t < N) {v : AV} {v' : Value} (hv : Rel m v v') {ds : List (FuncId × List AV × List AV)} {ds' : List Deferred} (hds : RelD m ds ds') :
  RelAct m N ((⟨a.tmps, ds ++ a.defers⟩ : AAct).put d v) (({ act with defers := ds' ++ act.defers } : Act).put d v') where
 size := by rw [put_size]; exact h.size
 tmps t := put_slot (a := ⟨a.tmps, ds ++ a.defers⟩) (act := { act with defers := ds' ++ act.defers }) h.size hd hv (fun _ => h.tmps t)
 defers := by rw [put_defersA, put_defersV]; exact hds.append h.defers
inductive RelExit (m : Map) : AExit → Exit → Prop
 | normal : RelExit m .normal .normal
 | exit (id : Nat) : RelExit m (.exit id) (.exit id)
 | goto (l : Nat) : RelExit m (.goto l) (.goto l)
 | ret : RelExit m .ret .ret
 | panic {v : AV} {v' : Value} (h : Rel m v v') : RelExit m (.panic v) (.panic [{ v := v', recovered := false }])
def Post (w0 : Base) (m : Map) (N : Nat) (e : AExit) (a : AAct) (h : AHeap) (e' : Exit) (act : Act) (w : World) : Prop := ∃ m', Ext m m' ∧ RelAct m' N a act ∧ Fits w0 m' h w ∧ RelExit m' e e'
theorem step_ok {call : CallF} (hc : CallOK P w0 call) {N : Nat} {ops : Array Oper} {o : Oper} {a : AAct} {act : Act} {st : AStep} {K : Act → World → Prop} {Q : Exit → Act → World → Prop} (ha : RelAct m N a act) (F : Fits w0 m H w) (hd : okDst N o = true)
  (h : stepA P call ops o a H = some st)
  (hgo : ∀ (a' : AAct) (h' : AHeap), st = .go a' h' → ∀ (m' : Map) (act' : Act) (w' : World), Ext m m' → RelAct m' N a' act' → Fits w0 m' h' w' → K act' w')
  (hpn : ∀ (v : AV) (h' : AHeap), st = .panic v h' → ∀ (m' : Map) (w' : World) (v' : Value), Ext m m' → Fits w0 m' h' w' → Rel m' v v' → Q (.panic [{ v := v', recovered := false }]) act w') :
  if Region.wanted o (yielded ops act.tmps) then o.wp P act w K Q ∨ (o.asks P act w ∧ LetsOut Q) else K (act.put o.dst undef) w := by
 have hd' : ∀ t, o.dst = some t → t < N := by
  intro t ht
  simp only [okDst, ht] at hd
  exact Nat.le_of_ble_eq_true hd
 unfold stepA at h
 split at h
 ·rename_i hw
  rw [wanted_ok (fun t _ => ha.tmps t) hw]
  simp only [if_true]
  cases hop : opA P a.eval o H with
  | none => rw [hop] at h; cases h
  | some p =>
   obtain ⟨nx, H1⟩ := p
   rw [hop] at h
   refine .inl (upon_ok hc (opA_ok F o (fun x _ v hv => eval_ok (fun t _ => ha.tmps t) v hv) hop) h ?_ hpn)
   intro a' h' e m' w' v v' ds ds' he F' hv e2 hds
   subst e2
   exact hgo _ h' e m' _ w' he ((ha.mono he.le).put hd' hv hds) F'
 ·rename_i hw
  rw [wanted_ok (fun t _ => ha.tmps t) hw]
  simp only [Bool.false_eq_true, if_false]
  simp only [stepPut, Option.some.injEq] at h
  exact hgo _ _ h.symm m _ w (Ext.refl m) (ha.put hd' (v := .tup []) (v' := undef) (.tup .nil) .nil) F
 ·cases h
theorem okOps_mem {N : Nat} : ∀ (l : List Oper), okOps N l = true → ∀ o ∈ l, okDst N o = true := by
 intro l
 induction l with
 | nil => intro _ o ho; simp at ho
 | cons x l ih =>
  intro h o ho
  rw [okOps, Bool.and_eq_true] at h
  rcases List.mem_cons.1 ho with rfl | ho
  ·exact h.1
  ·exact ih h.2 o ho
end
end
end Go.Proofs.Ytpnccmlajhhpdaa.Abs
namespace Go.Proofs.Ytpnccmlajhhpdaa.Abs
noncomputable section
section
variable {P : Program} {m : Map} {w0 : Base} {w : World} {H H' : AHeap} {nx : ANext}
def FreeOut (f : AHeap → OutT) (H : AHeap) (nx : ANext) (H' : AHeap) : Prop := ∃ v, nx = .val v ∧ H' = H ∧ ∀ h2, f h2 = some (.val v, h2)
theorem free_outV {x : Option AV} (h : outV H x = some (nx, H')) : FreeOut (fun h => outV h x) H nx H' := by
 unfold outV at h
 split at h
 ·simp only [Option.some.injEq, Prod.mk.injEq] at h
  obtain ⟨rfl, rfl⟩ := h
  exact ⟨_, rfl, rfl, fun h2 => rfl⟩
 ·cases h
theorem free_val {v : AV} (h : some (ANext.val v, H) = some (nx, H')) : FreeOut (fun h => some (.val v, h)) H nx H' := by
 simp only [Option.some.injEq, Prod.mk.injEq] at h
 obtain ⟨rfl, rfl⟩ := h
 exact ⟨_, rfl, rfl, fun h2 => rfl⟩
theorem FreeOut.eq {f g : AHeap → OutT} (hf : FreeOut f H nx H') (h : ∀ h2, g h2 = f h2) : FreeOut g H nx H' := by
 obtain ⟨v, h1, h2, h3⟩ := hf
 exact ⟨v, h1, h2, fun k => (h k).trans (h3 k)⟩
theorem free_pick {c a b : Option AV} (h : opPick H c a b = some (nx, H')) : FreeOut (fun h => opPick h c a b) H nx H' := by
 unfold opPick at h
 split at h
 ·exact free_outV h
 ·exact free_outV h
 ·cases h
theorem free_agg {x : Option (List AV)} (h : outAgg H x = some (nx, H')) : FreeOut (fun h => outAgg h x) H nx H' := by
 unfold outAgg at h
 split at h
 ·exact free_val h
 ·cases h
theorem free_build {ρ : RhoT} {t : TypeId} {ps : Array (Nat × Operand)} (h : opBuild P ρ H t ps = some (nx, H')) : FreeOut (fun h => opBuild P ρ h t ps) H nx H' := by
 unfold opBuild at h
 split at h
 ·rename_i z q hz hq
  split at h
  ·rename_i fs hu
   split at h
   ·rename_i hc
    exact (free_agg h).eq (fun h2 => by simp only [opBuild, hz, hq, hu, hc, if_true])
   ·cases h
  ·rename_i n e hu
   split at h
   ·rename_i hc
    exact (free_agg h).eq (fun h2 => by simp only [opBuild, hz, hq, hu, hc, if_true])
   ·cases h
  ·cases h
 ·cases h
theorem free_nil {x : Option AV} (h : opNil H x = some (nx, H')) : FreeOut (fun h => opNil h x) H nx H' := by
 unfold opNil at h
 split at h
 ·exact free_val h
 ·exact free_val h
 ·exact free_val h
 ·exact free_val h
 ·cases h
theorem free_bin {op : BinOp} {t : TypeId} {l : Bool} {x y : Option AV} (h : opBin P H op t l x y = some (nx, H')) : FreeOut (fun h => opBin P h op t l x y) H nx H' := by
 unfold opBin at h
 split at h
 ·exact free_outV h
 ·cases h
theorem apart_free {t : TypeId} {l : Bool} (hk : l = true ∨ ∀ e, P.underlying t ≠ some (.pointer e)) (h2 : AHeap) (x y : AV) : (!l && apartPtr P h2 t x y) = false := by
 rcases hk with rfl | hk
 ·rfl
 ·have hb : ptrBig P t = false := by
   unfold ptrBig
   split
   ·rename_i e hu; exact absurd hu (hk e)
   ·rfl
  have ha : apartPtr P h2 t x y = false := by
   unfold apartPtr
   split
   ·rw [hb]; simp
   ·rfl
  rw [ha, Bool.and_false]
theorem free_binV {op : BinOp} {t : TypeId} {l : Bool} {x y : Option AV} (hk : l = true ∨ ∀ e, P.underlying t ≠ some (.pointer e)) (h : opBinV P H op t l x y = some (nx, H')) : FreeOut (fun h => opBinV P h op t l x y) H nx H' := by
 cases x with
 | none => cases h
 | some x => cases y with
  | none => cases h
  | some y =>
   have he : ∀ h2, opBinV P h2 op t l (some x) (some y) = opBin P h2 op t l (some x) (some y) := fun h2 => by
    simp only [opBinV, apart_free hk h2 x y]
   rw [he] at h
   exact (free_bin h).eq he
theorem free_un {op : UnOp} {x : Option AV} (h : opUn H op x = some (nx, H')) : FreeOut (fun h => opUn h op x) H nx H' := by
 unfold opUn at h
 split at h
 ·split at h
  ·exact free_val h
  ·exact free_val h
  ·cases h
 ·split at h
  ·exact free_val h
  ·cases h
 ·cases h
theorem free_conv {s d : TypeId} {x : Option AV} (hs : ∀ e, P.underlying s ≠ some (.slice e)) (hd : ∀ e, P.underlying d ≠ some (.slice e)) (hs2 : P.underlying s ≠ some .unsafePointer) (hd2 : P.underlying d ≠ some .unsafePointer) (h : opConv P H s d x = some (nx, H')) : FreeOut (fun h => opConv P h s d x) H nx H' := by
 have hb : ∀ cs, convBytes P H s d cs = some (nx, H') → False := by
  intro cs hh
  unfold convBytes at hh
  split at hh
  ·rename_i e h1 h2; exact hs e h2
  ·cases hh
 unfold opConv at h
 split at h
 ·unfold convPtr at h
  split at h
  ·split at h
   ·rename_i h1 _ _; exact absurd h1 hd2
   ·cases h
  ·rename_i h1; exact absurd h1 hs2
  ·cases h
 ·split at h
  ·rename_i h1 h2
   exact (free_val h).eq (fun q => by simp only [opConv, h1, h2])
  ·cases h
 ·split at h
  ·rename_i h1
   unfold convStr at h
   split at h
   ·rename_i h2
    exact (free_val h).eq (fun q => by simp only [opConv, convStr, h1, h2])
   ·rename_i e h2; exact absurd h2 (hd e)
   ·cases h
  ·cases h
 ·split at h
  ·exact (hb _ h).elim
  ·cases h
 ·exact (hb _ h).elim
 ·exact (hb _ h).elim
 ·cases h
theorem free_iface {t : TypeId} {x : Option AV} (h : opIface P H t x = some (nx, H')) : FreeOut (fun h => opIface P h t x) H nx H' := by
 unfold opIface at h
 split at h
 ·split at h
  ·rename_i hc
   exact (free_val h).eq (fun q => by simp only [opIface, hc, if_true])
  ·cases h
 ·cases h
theorem free_makeFunc {ρ : RhoT} {fn : Fn} {a b : Array Operand} (h : opMakeFunc ρ H fn a b = some (nx, H')) : FreeOut (fun h => opMakeFunc ρ h fn a b) H nx H' := by
 unfold opMakeFunc at h
 split at h
 ·split at h
  ·rename_i x y hx hy
   exact (free_val h).eq (fun q => by simp only [opMakeFunc, hx, hy])
  ·cases h
 ·cases h
theorem free_slice {ρ : RhoT} {t : TypeId} {x : Operand} {lo hi mx : Option Operand} (hna : ∀ n e, P.underlying t ≠ some (.array n e)) (h : opSlice P ρ H t x lo hi mx = some (nx, H')) : FreeOut (fun h => opSlice P ρ h t x lo hi mx) H nx H' := by
 unfold opSlice at h
 split at h
 ·split at h
  ·rename_i q xv a b c hx ha hb hc
   refine FreeOut.eq (f := fun h => slice3A P h t xv a b c) ?_ (fun q => by simp only [opSlice, hx, ha, hb, hc])
   unfold slice3A at h
   split at h
   ·cases h
   ·split at h
    ·cases h
    ·split at h
     ·unfold slice3Row at h
      split at h
      ·rename_i l r k hl hr hk
       split at h
       ·rename_i e he
        split at h
        ·rename_i hcond
         refine (free_val h).eq (fun q => ?_)
         simp only [slice3A, slice3Row, hl, hr, hk, he]
         rw [if_pos hcond]
        ·cases h
       ·cases h
      ·cases h
     ·cases h
  ·cases h
 ·split at h
  ·rename_i a b c ha hb hc
   refine FreeOut.eq (f := fun h => sliceA P h t a b c) ?_ (fun q => by simp only [opSlice, ha, hb, hc])
   unfold sliceA at h
   split at h
   ·split at h
    ·rename_i n e hu; exact absurd hu (hna n e)
    ·cases h
   ·unfold sliceStr at h
    split at h
    ·rename_i l r hl hr
     split at h
     ·rename_i hu
      split at h
      ·rename_i hcond
       exact (free_val h).eq (fun q => by simp only [sliceA, sliceStr, hl, hr, hu, hcond, and_self, if_true])
      ·cases h
     ·cases h
    ·cases h
   ·unfold sliceRow at h
    split at h
    ·rename_i l r hl hr
     split at h
     ·rename_i e he
      split at h
      ·rename_i hcond
       refine (free_val h).eq (fun q => ?_)
       simp only [sliceA, sliceRow, hl, hr, he]
       rw [if_pos hcond]
      ·cases h
     ·cases h
    ·cases h
   ·unfold sliceNil at h
    split at h
    ·rename_i hl hr
     split at h
     ·rename_i e he
      split at h
      ·rename_i hcond
       exact (free_val h).eq (fun q => by simp only [sliceA, sliceNil, hl, hr, he, hcond, if_true])
      ·cases h
     ·cases h
    ·cases h
   ·unfold sliceNil at h
    split at h
    ·rename_i hl hr
     split at h
     ·rename_i e he
      split at h
      ·rename_i hcond
       exact (free_val h).eq (fun q => by simp only [sliceA, sliceNil, hl, hr, he, hcond, if_true])
      ·cases h
     ·cases h
    ·cases h
   ·cases h
  ·cases h
theorem free_fieldAddr {s : TypeId} {f : Nat} {x : Option AV} (h : opFieldAddr P H s f x = some (nx, H')) : FreeOut (fun h => opFieldAddr P h s f x) H nx H' := by
 unfold opFieldAddr at h
 split at h
 ·split at h
  ·rename_i hu
   split at h
   ·rename_i hf
    split at h
    ·rename_i hc
     exact (free_val h).eq (fun q => by simp only [opFieldAddr, hu, hf, hc, if_true])
    ·cases h
   ·cases h
  ·cases h
 ·split at h
  ·rename_i hu
   split at h
   ·rename_i hf
    split at h
    ·rename_i hc
     exact (free_val h).eq (fun q => by simp only [opFieldAddr, hu, hf, hc, if_true])
    ·cases h
   ·cases h
  ·cases h
 ·cases h
theorem free_field {t : TypeId} {f : Nat} {x : Option AV} (h : opField P H t f x = some (nx, H')) : FreeOut (fun h => opField P h t f x) H nx H' := by
 unfold opField at h
 split at h
 ·split at h
  ·rename_i hu
   split at h
   ·rename_i hf
    exact (free_outV h).eq (fun q => by simp only [opField, hu, hf])
   ·cases h
  ·cases h
 ·cases h
theorem free_indexAddr {t : TypeId} {x y : Option AV} (h : opIndexAddr P H t x y = some (nx, H')) : FreeOut (fun h => opIndexAddr P h t x y) H nx H' := by
 unfold opIndexAddr at h
 split at h
 ·split at h
  ·rename_i hu
   split at h
   ·rename_i hc
    refine (free_val h).eq (fun q => ?_)
    simp only [opIndexAddr, hu]
    rw [if_pos hc]
   ·cases h
  ·cases h
 ·split at h
  ·rename_i hu
   split at h
   ·rename_i hc
    refine (free_val h).eq (fun q => ?_)
    simp only [opIndexAddr, hu]
    rw [if_pos hc]
   ·cases h
  ·cases h
 ·split at h
  ·rename_i hu
   split at h
   ·rename_i hc
    refine (free_val h).eq (fun q => ?_)
    simp only [opIndexAddr, hu]
    rw [if_pos hc]
   ·cases h
  ·cases h
 ·cases h
theorem free_index {t : TypeId} {x y : Option AV} (h : opIndex P H t x y = some (nx, H')) : FreeOut (fun h => opIndex P h t x y) H nx H' := by
 unfold opIndex at h
 split at h
 ·split at h
  ·rename_i hu
   split at h
   ·rename_i hc
    refine (free_outV h).eq (fun q => ?_)
    simp only [opIndex, hu]
    rw [if_pos hc]
   ·cases h
  ·cases h
 ·split at h
  ·rename_i hu
   split at h
   ·rename_i hc
    refine (free_val h).eq (fun q => ?_)
    simp only [opIndex, hu]
    rw [if_pos hc]
   ·cases h
  ·cases h
 ·cases h
theorem free_assert {t : TypeId} {ok : Bool} {x : Option AV} (h : opAssert P H t ok x = some (nx, H')) : FreeOut (fun h => opAssert P h t ok x) H nx H' := by
 unfold opAssert at h
 split at h
 ·split at h
  ·rename_i hc
   unfold concAssert at h
   split at h
   ·rename_i he
    refine (free_val h).eq (fun q => ?_)
    simp only [opAssert, concAssert, hc, if_true]
    rw [if_pos he]
   ·cases h
  ·cases h
 ·cases h
theorem free_extract {i : Nat} {x : Option AV} (h : opExtract H i x = some (nx, H')) : FreeOut (fun h => opExtract h i x) H nx H' := by
 unfold opExtract at h
 split at h
 ·exact free_outV h
 ·cases h
theorem free_len {t : TypeId} {x : AV} (hm : ∀ k e, P.underlying t ≠ some (.map k e)) (h : opLen P H t x = some (nx, H')) : FreeOut (fun h => opLen P h t x) H nx H' := by
 unfold opLen at h
 split at h
 ·rename_i hu
  exact (free_val h).eq (fun q => by simp only [opLen, hu])
 ·rename_i hu
  split at h
  ·exact (free_val h).eq (fun q => by simp only [opLen, hu])
  ·cases h
 ·rename_i hu
  split at h
  ·exact (free_val h).eq (fun q => by simp only [opLen, hu])
  ·exact (free_val h).eq (fun q => by simp only [opLen, hu])
  ·exact (free_val h).eq (fun q => by simp only [opLen, hu])
  ·cases h
 ·rename_i k e hu; exact absurd hu (hm k e)
 ·cases h
theorem free_call {ρ : RhoT} {c : Call} (hk : kindOf P (.call c) = 0) (h : opCall P ρ H c = some (nx, H')) : FreeOut (fun h => opCall P ρ h c) H nx H' := by
 unfold opCall at h
 split at h
 ·rename_i args ha
  obtain ⟨callee, cargs, ts⟩ := c
  simp only [kindOf] at hk ha h
  cases callee with
  | invoke r n => simp at h
  | value f => simp at hk
  | builtin b =>
   simp only at h hk
   refine FreeOut.eq (f := fun h => builtinA P b ts args h) ?_ (fun q => by simp only [opCall, ha])
   cases b <;> simp only at hk <;> try (cases hk; done)
   case len =>
    simp only [builtinA] at h
    split at h
    ·rename_i x t l hts
     have h0 : ts[0]? = some t := by rw [← Array.getElem?_toList, hts]; rfl
     refine FreeOut.eq (free_len (fun k e hu => ?_) h) (fun q => by simp only [builtinA, hts])
     rw [h0] at hk
     simp [hu] at hk
    ·cases h
   case max =>
    simp only [builtinA] at h
    split at h
    ·exact free_outV h
    ·cases h
   case min =>
    simp only [builtinA] at h
    split at h
    ·exact free_outV h
    ·cases h
 ·cases h
theorem kind0 {ρ : RhoT} {o : Oper} (hk : kindOf P o.op = 0) (h : opA P ρ o H = some (nx, H')) : FreeOut (fun h => opA P ρ o h) H nx H' := by
 obtain ⟨dst, op, ty, pos, after, guard⟩ := o
 unfold opA opTable at h ⊢
 simp only at h hk ⊢
 cases op
 case move x => exact free_outV h
 case assign x => exact free_outV h
 case pick c a b => exact free_pick h
 case build t ps => exact free_build h
 case nilCheck x => exact free_nil h
 case binOp op t x y p =>
  refine free_binV ?_ h
  simp only [kindOf] at hk
  split at hk
  ·rename_i hl; exact .inl hl
  ·split at hk
   ·cases hk
   ·rename_i hu; exact .inr fun e he => hu e he
 case unOp op t x => exact free_un h
 case convert s d x =>
  simp only [kindOf] at hk
  refine free_conv (fun e hu => ?_) (fun e hu => ?_) (fun hu => ?_) (fun hu => ?_) h
  ·rw [hu] at hk; simp at hk
  ·rw [hu] at hk
   split at hk <;> simp at hk
  ·rw [hu] at hk; simp at hk
  ·rw [hu] at hk
   split at hk <;> simp at hk
 case makeInterface t x => exact free_iface h
 case makeFunc fn a b => exact free_makeFunc h
 case slice t x lo hi mx =>
  refine free_slice (fun n e hu => ?_) h
  simp only [kindOf, hu] at hk
  cases hk
 case fieldAddr s x f => exact free_fieldAddr h
 case field t x f => exact free_field h
 case indexAddr t x i => exact free_indexAddr h
 case index t x i => exact free_index h
 case typeAssert x u t ok => exact free_assert h
 case extract t i => exact free_extract h
 case call c => exact free_call hk h
 all_goals (simp [kindOf] at hk)
theorem kind1 {o : Op} (hk : kindOf P o = 1) : isRead o = true := by
 cases o
 case load t x => rfl
 case lookup => rfl
 case slice =>
  simp only [kindOf] at hk
  split at hk <;> cases hk
 case binOp =>
  simp only [kindOf] at hk
  split at hk
  ·cases hk
  ·split at hk <;> cases hk
 case convert s d x =>
  simp only [kindOf] at hk
  split at hk
  ·cases hk
  ·cases hk
  ·split at hk <;> cases hk
 case call c =>
  simp only [kindOf] at hk
  split at hk
  ·split at hk <;> cases hk
  ·cases hk
  ·cases hk
  ·cases hk
 all_goals (simp [kindOf] at hk)
theorem load_out {t : TypeId} {x : Option AV} (h : opLoad P H t x = some (nx, H')) : ∃ v b o, nx = .val v ∧ H' = H ∧ (x = some (.ptr b o) ∨ x = some (.gptr b o)) ∧ (H.get b).isSome ∧ ∀ h2, h2.get b = H.get b → opLoad P h2 t x = some (.val v, h2) := by
 unfold opLoad at h
 split at h
 ·rename_i b o
  have hget : ∀ n l, rowGet H b o n = some l → (H.get b).isSome = true := by
   intro n l hl
   unfold rowGet at hl
   split at hl
   ·rename_i hb; rw [hb]; rfl
   ·rename_i hb; rw [hb]; rfl
   ·rename_i hb; rw [hb]; rfl
   ·cases hl
  have hcell : ∀ v, cellGet H b o = some v → (H.get b).isSome = true := by
   intro v hl
   unfold cellGet at hl
   split at hl
   ·rename_i hb; rw [hb]; rfl
   ·rename_i hb; rw [hb]; rfl
   ·rename_i hb; rw [hb]; rfl
   ·cases hl
  split at h
  ·rename_i ha
   split at h
   ·rename_i l hl
    simp only [Option.some.injEq, Prod.mk.injEq] at h
    obtain ⟨rfl, rfl⟩ := h
    refine ⟨_, b, o, rfl, rfl, .inl rfl, hget _ _ hl, fun h2 e => ?_⟩
    have : rowGet h2 b o (P.cellsOf t) = rowGet H b o (P.cellsOf t) := by simp only [rowGet, e]
    simp only [opLoad, ha, this, hl]
   ·cases h
  ·rename_i ha
   unfold outV at h
   split at h
   ·rename_i v hv
    simp only [Option.some.injEq, Prod.mk.injEq] at h
    obtain ⟨rfl, rfl⟩ := h
    refine ⟨_, b, o, rfl, rfl, .inl rfl, hcell _ hv, fun h2 e => ?_⟩
    have : cellGet h2 b o = cellGet H b o := by simp only [cellGet, e]
    simp only [opLoad, ha, this, hv, outV]
   ·cases h
  ·cases h
 ·rename_i b o
  have hget : ∀ n l, rowGet H b o n = some l → (H.get b).isSome = true := by
   intro n l hl
   unfold rowGet at hl
   split at hl
   ·rename_i hb; rw [hb]; rfl
   ·rename_i hb; rw [hb]; rfl
   ·rename_i hb; rw [hb]; rfl
   ·cases hl
  have hcell : ∀ v, cellGet H b o = some v → (H.get b).isSome = true := by
   intro v hl
   unfold cellGet at hl
   split at hl
   ·rename_i hb; rw [hb]; rfl
   ·rename_i hb; rw [hb]; rfl
   ·rename_i hb; rw [hb]; rfl
   ·cases hl
  split at h
  case h_2 => cases h
  rename_i tg hgl
  split at h
  ·rename_i ha
   split at h
   ·rename_i l hl
    simp only [Option.some.injEq, Prod.mk.injEq] at h
    obtain ⟨rfl, rfl⟩ := h
    refine ⟨_, b, o, rfl, rfl, .inr rfl, hget _ _ hl, fun h2 e => ?_⟩
    have : rowGet h2 b o (P.cellsOf t) = rowGet H b o (P.cellsOf t) := by simp only [rowGet, e]
    simp only [opLoad, e, hgl, ha, this, hl]
   ·cases h
  ·rename_i ha
   unfold outV at h
   split at h
   ·rename_i v hv
    simp only [Option.some.injEq, Prod.mk.injEq] at h
    obtain ⟨rfl, rfl⟩ := h
    refine ⟨_, b, o, rfl, rfl, .inr rfl, hcell _ hv, fun h2 e => ?_⟩
    have : cellGet h2 b o = cellGet H b o := by simp only [cellGet, e]
    simp only [opLoad, e, hgl, ha, this, hv, outV]
   ·cases h
  ·cases h
 ·cases h
theorem read_out {ρ : RhoT} {o : Oper} (hr : isRead o.op = true) (h : opA P ρ o H = some (nx, H')) : ∃ v, nx = .val v ∧ H' = H ∧ ∀ h2, (∀ b, (H.get b).isSome = true → h2.get b = H.get b) → opA P ρ o h2 = some (.val v, h2) := by
 obtain ⟨dst, op, ty, pos, after, guard⟩ := o
 cases op <;> try (simp [isRead] at hr; done)
 case load t x =>
  change opLoad P H t _ = _ at h
  obtain ⟨v, b, off, e1, e2, _, h3, h4⟩ := load_out h
  exact ⟨v, e1, e2, fun h2 hh => h4 h2 (hh b h3)⟩
 case lookup t x y ok =>
  change opLookup P H t ok (ρ x) (ρ y) = _ at h
  have hout : ∀ et r, lookOut P H et ok r = some (nx, H') → ∃ v, nx = .val v ∧ H' = H ∧ ∀ h2, lookOut P h2 et ok r = some (.val v, h2) := by
   intro et r hl
   unfold lookOut at hl
   split at hl
   ·simp only [Option.some.injEq, Prod.mk.injEq] at hl
    obtain ⟨rfl, rfl⟩ := hl
    exact ⟨_, rfl, rfl, fun h2 => rfl⟩
   ·split at hl
    ·rename_i z hz
     simp only [Option.some.injEq, Prod.mk.injEq] at hl
     obtain ⟨rfl, rfl⟩ := hl
     exact ⟨_, rfl, rfl, fun h2 => by simp only [lookOut, hz]⟩
    ·cases hl
   ·cases hl
  unfold opLookup at h
  split at h
  ·rename_i a k hx hy
   split at h
   ·rename_i kt et hu
    split at h
    ·rename_i hkt
     split at h
     ·rename_i es hes
      obtain ⟨v, e1, e2, e3⟩ := hout _ _ h
      refine ⟨v, e1, e2, fun h2 hh => ?_⟩
      have hm : mapGet h2 a = some es := by
       unfold mapGet at hes ⊢
       split at hes
       ·exact hes
       ·rename_i b
        split at hes
        ·rename_i es' hb
         rw [hh b (by rw [hb]; rfl), hb]; exact hes
        ·cases hes
       ·cases hes
      change opLookup P h2 t ok (ρ x) (ρ y) = _
      simp only [opLookup, hx, hy, hu, hkt, if_true, hm, e3]
     ·cases h
    ·cases h
   ·cases h
  ·cases h
theorem kind2 {o : Op} (hk : kindOf P o = 2) : (∃ e, o = .alloc e) ∨ ∃ e x, o = .box e x := by
 cases o
 case alloc e => exact .inl ⟨e, rfl⟩
 case box e x => exact .inr ⟨e, x, rfl⟩
 case slice =>
  simp only [kindOf] at hk
  split at hk <;> cases hk
 case binOp =>
  simp only [kindOf] at hk
  split at hk
  ·cases hk
  ·split at hk <;> cases hk
 case convert s d x =>
  simp only [kindOf] at hk
  split at hk
  ·cases hk
  ·cases hk
  ·split at hk <;> cases hk
 case call c =>
  simp only [kindOf] at hk
  split at hk
  ·split at hk <;> cases hk
  ·cases hk
  ·cases hk
  ·cases hk
 all_goals (simp [kindOf] at hk)
theorem box_out {e : TypeId} {z : Option AV} (h : opBox H e z = some (nx, H')) : ∃ x, z = some x ∧ x.cells.all AV.one = true ∧ nx = .val (.ptr H.next 0) ∧ H' = H.new (rowOf x.cells e) ∧ ∀ h2, opBox h2 e z = some (.val (.ptr h2.next 0), h2.new (rowOf x.cells e)) := by
 unfold opBox at h
 split at h
 ·rename_i x
  unfold outNew at h
  split at h
  ·rename_i hc
   simp only [Option.some.injEq, Prod.mk.injEq] at h
   obtain ⟨rfl, rfl⟩ := h
   exact ⟨x, rfl, hc, rfl, rfl, fun h2 => by simp only [opBox, outNew, hc, if_true]⟩
  ·cases h
 ·cases h
theorem partsA_congr {ρ ρ2 : RhoT} : ∀ (l : List (Nat × Operand)), (∀ x ∈ l.map (·.2), ρ x = ρ2 x) → partsA ρ l = partsA ρ2 l
 | [], _ => rfl
 | (i, x) :: l, h => by
  simp only [partsA]
  rw [h x (by simp), partsA_congr l (fun y hy => h y (by simp at hy ⊢; exact .inr hy))]
theorem argsA_congr {ρ ρ2 : RhoT} : ∀ (l : List Operand), (∀ x ∈ l, ρ x = ρ2 x) → argsA ρ l = argsA ρ2 l
 | [], _ => rfl
 | x :: l, h => by
  simp only [argsA]
  rw [h x (by simp), argsA_congr l (fun y hy => h y (by simp [hy]))]
theorem optA_congr {ρ ρ2 : RhoT} {x : Option Operand} (h : ∀ o, x = some o → ρ o = ρ2 o) : optA ρ x = optA ρ2 x := by
 unfold optA
 split
 ·rfl
 ·rename_i o; rw [h o rfl]
theorem opA_congr {ρ ρ2 : RhoT} (o : Oper) (h : ∀ x ∈ o.op.operands.toList, ρ x = ρ2 x) (hp : AHeap) : opA P ρ o hp = opA P ρ2 o hp := by
 obtain ⟨dst, op, ty, pos, after, guard⟩ := o
 unfold opA opTable
 simp only at h ⊢
 cases op
 case build t ps => simp only [do_build, opBuild]; rw [partsA_congr ps.toList (fun x hx => h x (by simpa [Op.operands] using hx))]
 case buildSlice t n ps => simp only [do_buildSlice, opBuildSlice]; rw [partsA_congr ps.toList (fun x hx => h x (by simpa [Op.operands] using hx))]
 case makeFunc fn a b =>
  simp only [do_makeFunc, opMakeFunc]
  rw [argsA_congr a.toList (fun x hx => h x (by simp [Op.operands]; exact .inl (by simpa using hx))), argsA_congr b.toList (fun x hx => h x (by simp [Op.operands]; exact .inr (by simpa using hx)))]
 case slice t x lo hi mx =>
  simp only [do_slice, opSlice]
  rw [h x (by simp [Op.operands]), optA_congr (x := lo) (fun o e => h o (by simp [Op.operands, e])), optA_congr (x := hi) (fun o e => h o (by simp [Op.operands, e]))]
  cases mx with
  | none => rfl
  | some q =>
   have e : optA ρ (some q) = optA ρ2 (some q) := optA_congr (fun o e => by cases e; exact h q (by simp [Op.operands]))
   simp only [e]
 case call c =>
  simp only [do_call, opCall]
  rw [argsA_congr c.args.toList (fun x hx => h x (by simp only [Op.operands, Call.operands]; simp [hx]))]
  cases hc : c.callee with
  | value f =>
   have e := h f (by simp [Op.operands, Call.operands, hc])
   simp only [e]
  | builtin b => rfl
  | invoke r n => rfl
 case defer c =>
  simp only [do_defer, opDefer]
  rw [argsA_congr c.args.toList (fun x hx => h x (by simp only [Op.operands, Call.operands]; simp [hx]))]
  cases hc : c.callee with
  | value f =>
   have e := h f (by simp [Op.operands, Call.operands, hc])
   simp only [e]
  | builtin b => rfl
  | invoke r n => rfl
 case move x => simp only [do_move]; rw [h x (by simp [Op.operands])]
 case assign x => simp only [do_assign]; rw [h x (by simp [Op.operands])]
 case pick c a b => simp only [do_pick]; rw [h c (by simp [Op.operands]), h a (by simp [Op.operands]), h b (by simp [Op.operands])]
 case box e x => simp only [do_box]; rw [h x (by simp [Op.operands])]
 case insert t m k x => simp only [do_insert]; rw [h m (by simp [Op.operands]), h k (by simp [Op.operands]), h x (by simp [Op.operands])]
 case load t a => simp only [do_load]; rw [h a (by simp [Op.operands])]
 case store t a x => simp only [do_store]; rw [h a (by simp [Op.operands]), h x (by simp [Op.operands])]
 case nilCheck x => simp only [do_nilCheck]; rw [h x (by simp [Op.operands])]
 case binOp op t x y p => simp only [do_binOp]; rw [h x (by simp [Op.operands]), h y (by simp [Op.operands])]
 case unOp op t x => simp only [do_unOp]; rw [h x (by simp [Op.operands])]
 case convert s d x => simp only [do_convert]; rw [h x (by simp [Op.operands])]
 case makeInterface t x => simp only [do_makeInterface]; rw [h x (by simp [Op.operands])]
 case makeSlice t a b => simp only [do_makeSlice]; rw [h a (by simp [Op.operands]), h b (by simp [Op.operands])]
 case fieldAddr s x f => simp only [do_fieldAddr]; rw [h x (by simp [Op.operands])]
 case field t x f => simp only [do_field]; rw [h x (by simp [Op.operands])]
 case indexAddr t x i => simp only [do_indexAddr]; rw [h x (by simp [Op.operands]), h i (by simp [Op.operands])]
 case index t x i => simp only [do_index]; rw [h x (by simp [Op.operands]), h i (by simp [Op.operands])]
 case lookup t x i ok => simp only [do_lookup]; rw [h x (by simp [Op.operands]), h i (by simp [Op.operands])]
 case mapUpdate t m k x => simp only [do_mapUpdate]; rw [h m (by simp [Op.operands]), h k (by simp [Op.operands]), h x (by simp [Op.operands])]
 case typeAssert x u t ok => simp only [do_typeAssert]; rw [h x (by simp [Op.operands])]
 case extract t i => simp only [do_extract]; rw [h t (by simp [Op.operands])]
 case panic x => simp only [do_panic]; rw [h x (by simp [Op.operands])]
 all_goals rfl
mutual
theorem AV.same_eq : ∀ (x y : AV), AV.same x y = true → x = y
 | .bool a, y, h => by cases y <;> simp [AV.same] at h ⊢; exact h
 | .int k a, y, h => by cases y <;> simp [AV.same] at h ⊢; exact h
 | .str a b, y, h => by cases y <;> simp [AV.same] at h ⊢; exact h
 | .ptr a b, y, h => by cases y <;> simp [AV.same] at h ⊢; exact h
 | .nilp, y, h => by cases y <;> simp [AV.same] at h ⊢
 | .sl a b c d, y, h => by cases y <;> simp [AV.same] at h ⊢; exact ⟨h.1.1.1, h.1.1.2, h.1.2, h.2⟩
 | .nsl, y, h => by cases y <;> simp [AV.same] at h ⊢
 | .esl, y, h => by cases y <;> simp [AV.same] at h ⊢
 | .mp a, y, h => by cases y <;> simp [AV.same] at h ⊢; exact h
 | .nmp, y, h => by cases y <;> simp [AV.same] at h ⊢
 | .fn f a b, y, h => by
  cases y <;> simp [AV.same] at h ⊢
  exact ⟨h.1.1, AV.sameL_eq _ _ h.1.2, AV.sameL_eq _ _ h.2⟩
 | .nfn, y, h => by cases y <;> simp [AV.same] at h ⊢
 | .ifc t v, y, h => by
  cases y <;> simp [AV.same] at h ⊢
  exact ⟨h.1, AV.same_eq _ _ h.2⟩
 | .nifc, y, h => by cases y <;> simp [AV.same] at h ⊢
 | .agg a, y, h => by cases y <;> simp [AV.same] at h ⊢; exact AV.sameL_eq _ _ h
 | .tup a, y, h => by cases y <;> simp [AV.same] at h ⊢; exact AV.sameL_eq _ _ h
 | .yld a, y, h => by cases y <;> simp [AV.same] at h ⊢; exact h
 | .mrk a, y, h => by cases y <;> simp [AV.same] at h ⊢; exact h
 | .gptr a b, y, h => by cases y <;> simp [AV.same] at h ⊢; exact h
theorem AV.sameL_eq : ∀ (x y : List AV), AV.sameL x y = true → x = y
 | [], y, h => by cases y <;> simp [AV.sameL] at h ⊢
 | a :: l, y, h => by
  cases y <;> simp [AV.sameL] at h ⊢
  exact ⟨AV.same_eq _ _ h.1, AV.sameL_eq _ _ h.2⟩
end
theorem memB_iff {i : Nat} : ∀ {l : List Nat}, memB i l = true ↔ i ∈ l
 | [] => by simp [memB]
 | j :: l => by simp [memB, memB_iff (l := l)]
theorem allB_iff {f : Nat → Bool} : ∀ {l : List Nat}, allB f l = true ↔ ∀ i ∈ l, f i = true
 | [] => by simp [allB]
 | j :: l => by simp [allB, allB_iff (l := l)]
theorem subB_iff {l k : List Nat} : subB l k = true ↔ ∀ i ∈ l, i ∈ k := by
 simp only [subB, allB_iff, memB_iff]
theorem allRec_mem {f : Rec → Bool} (l : List Rec) (h : allRec f l = true) : ∀ r ∈ l, f r = true := by
 induction l with
 | nil => intro r hr; simp at hr
 | cons j l ih =>
  rw [allRec, Bool.and_eq_true] at h
  intro r hr
  rcases List.mem_cons.1 hr with rfl | hr
  ·exact h.1
  ·exact ih h.2 r hr
theorem ancOf_closed {ops : Array Oper} {S : Nat → Prop} (hS : ∀ i, S i → ∀ j ∈ edgesAt ops i, S j) (n : Nat) : ∀ (i j : Nat), S i → ancOf ops n i j = true → S j := by
 induction n with
 | zero => intro i j _ h; simp [ancOf] at h
 | succ n ih =>
  intro i j hi h
  simp only [ancOf, Bool.or_eq_true, memB_iff, List.any_eq_true] at h
  rcases h with h | ⟨k, hk, h⟩
  ·exact hS i hi j h
  ·exact ih k j (hS i hi k hk) h
end
end
end Go.Proofs.Ytpnccmlajhhpdaa.Abs
namespace Go.Proofs.Ytpnccmlajhhpdaa.Abs
noncomputable section
open Go.RowKit
section
variable {P : Program} {m : Map} {w0 : Base} {w : World} {H H' : AHeap} {nx : ANext}
theorem Fits.fill (F : Fits w0 m H w) {id n : Nat} {t : T AV} {e : TypeId} {l : List AV} {vs : List Value} (hm : m[id]? = some none) (hb : H.get id = some (.row n t e)) (hn : n = l.length) (ht : ∀ i, i < n → t.get i = l[i]?) (hr : RelL m l vs) (hone : l.all AV.one = true) :
  Fits w0 (m.set id (some (w.heap.size, 0, vs.length))) H (w.alloc (.cells vs.toArray e)) := by
 have Fa := F.alloc (.cells vs.toArray e)
 have hle : Map.le m (m.set id (some (w.heap.size, 0, vs.length))) := Map.le_set hm _
 have hlt : id < m.length := (List.getElem?_eq_some_iff.1 hm).1
 have hl := hr.length
 have new : ∀ {q : Nat × Nat × Nat}, (m.set id (some (w.heap.size, 0, vs.length)))[id]? = some (some q) → q = (w.heap.size, 0, vs.length) := by
  intro q h
  rw [List.getElem?_set_self hlt] at h
  simpa using h.symm
 have old : ∀ {b : Nat} {q : Nat × Nat × Nat}, id ≠ b → (m.set id (some (w.heap.size, 0, vs.length)))[b]? = some (some q) → m[b]? = some (some q) := by
  intro b q h1 h2
  rwa [List.getElem?_set_ne h1] at h2
 exact {
  below := Fa.below
  floor := Fa.floor
  pin := by
   intro k o hk
   refine ⟨(Fa.pin k o hk).1, fun b o2 s z h ho hmb => ?_⟩
   by_cases eb : id = b
   ·subst eb
    have := new hmb
    cases this
    have := heap_lt (F.pin _ _ hk).1
    omega
   ·exact (F.pin k o hk).2 b o2 s z h ho (old eb hmb)
  len := by rw [List.length_set]; exact F.len
  fresh := F.fresh
  wf := F.wf
  row := by
   intro b n' t' e' g s z h hmb
   by_cases eb : id = b
   ·subst eb
    rw [hb] at h; cases h
    obtain ⟨rfl, rfl, rfl⟩ := (by simpa using new hmb : g = w.heap.size ∧ s = 0 ∧ z = vs.length)
    refine ⟨F.size, vs.toArray, (0, 0), heap_alloc_new w _, by simp, by omega, fun i _ => by simp, fun i hi => F.wf _ _ _ _ hb i hi, fun i hi => ?_⟩
    have hx : l[i]? = some (l[i]'(by omega)) := List.getElem?_eq_getElem (by omega)
    obtain ⟨y, hy, hxy⟩ := hr.get i _ hx
    exact ⟨_, y, by rw [ht i hi]; exact hx, by simpa using hy, hxy.mono hle, hr.one hone y (List.mem_of_getElem? hy)⟩
   ·have := Fa.row b n' t' e' g s z h (old eb hmb)
    exact ⟨this.1, this.2.mono hle⟩
  map := by
   intro b es g s z h hmb
   by_cases eb : id = b
   ·subst eb; rw [hb] at h; cases h
   ·have := Fa.map b es g s z h (old eb hmb)
    exact ⟨this.1, this.2.1, this.2.2.1, this.2.2.2.mono hle⟩
  obj := by
   intro b q g s z h hmb
   by_cases eb : id = b
   ·subst eb; rw [hb] at h; cases h
   ·have := Fa.obj b q g s z h (old eb hmb)
    exact ⟨this.1, this.2.1, this.2.2.1, this.2.2.2.mono hle⟩
  exact := by
   intro b n' t' e' g s z h hmb hx
   by_cases eb : id = b
   ·subst eb
    rw [hb] at h; cases h
    obtain ⟨rfl, rfl, rfl⟩ := (by simpa using new hmb : g = w.heap.size ∧ s = 0 ∧ z = vs.length)
    exact ⟨⟨rfl, by omega⟩, Unfz.zero (heap_alloc_new w _)⟩
   ·exact Fa.exact b n' t' e' g s z h (old eb hmb) hx
  ro := by
   intro b t' g s z h hmb
   by_cases eb : id = b
   ·subst eb; rw [hb] at h; cases h
   ·exact (Fa.ro b t' g s z h (old eb hmb)).mono hle
  glob := by
   intro b t' h
   by_cases eb : id = b
   ·subst eb; rw [hb] at h; cases h
   ·obtain ⟨z, h1, h2⟩ := Fa.glob b t' h
    exact ⟨z, by rw [List.getElem?_set_ne eb]; exact h1, h2.mono hle⟩
  sep := by
   intro b1 b2 o1 o2 g s z s' z' hne h1 h2 a1 a2 m1 m2
   by_cases e1 : id = b1
   ·subst e1
    have := new m1
    cases this
    have := F.mapped_lt h2 a2 (old hne m2)
    omega
   ·by_cases e2 : id = b2
    ·subst e2
     have := new m2
     cases this
     have := F.mapped_lt h1 a1 (old e1 m1)
     omega
    ·exact F.sep b1 b2 o1 o2 g s z s' z' hne h1 h2 a1 a2 (old e1 m1) (old e2 m2) }
theorem Fits.later (F : Fits w0 m H w) (l : List AV) (e : TypeId) : Fits w0 (m ++ [none]) (H.new (rowOf l e)) w := by
 have hnew : (m ++ [none])[H.next]? = some none := by rw [← F.len, List.getElem?_append_right (Nat.le_refl _)]; simp
 have old : ∀ {b : Nat} {o : AObj} {p : Nat × Nat × Nat}, H.next ≠ b → (H.new (rowOf l e)).get b = some o → (m ++ [none])[b]? = some (some p) → H.get b = some o ∧ m[b]? = some (some p) := by
  intro b o p eb h hm
  rw [get_new_other _ eb] at h
  rw [List.getElem?_append_left (by rw [F.len]; exact F.lt_next h)] at hm
  exact ⟨h, hm⟩
 have no : ∀ {b : Nat} {p : Nat × Nat × Nat}, (m ++ [none])[b]? = some (some p) → H.next ≠ b := by
  intro b p h e
  subst e
  rw [hnew] at h; cases h
 exact {
  below := F.below
  floor := F.floor
  pin := by
   intro k o hk
   refine ⟨(F.pin k o hk).1, fun b o2 s z h ho hm => ?_⟩
   obtain ⟨h, hm⟩ := old (no hm) h hm
   exact (F.pin k o hk).2 b o2 s z h ho hm
  len := by simp [F.len, AHeap.new]
  fresh := by
   intro b hb
   have : H.next + 1 ≤ b := hb
   rw [get_new_other _ (by omega)]; exact F.fresh b (by omega)
  wf := by
   intro b n t e' h i hi
   by_cases eb : H.next = b
   ·subst eb
    rw [get_new_same] at h
    unfold rowOf at h
    cases h
    rw [rowOf_get, List.getElem?_eq_none hi]
   ·rw [get_new_other _ eb] at h
    exact F.wf b n t e' h i hi
  row := by
   intro b n t e' g s z h hm
   obtain ⟨h, hm⟩ := old (no hm) h hm
   have := F.row b n t e' g s z h hm
   exact ⟨this.1, this.2.mono (Map.le_append m _)⟩
  map := by
   intro b es g s z h hm
   obtain ⟨h, hm⟩ := old (no hm) h hm
   have := F.map b es g s z h hm
   exact ⟨this.1, this.2.1, this.2.2.1, this.2.2.2.mono (Map.le_append m _)⟩
  obj := by
   intro b q g s z h hm
   obtain ⟨h, hm⟩ := old (no hm) h hm
   have := F.obj b q g s z h hm
   exact ⟨this.1, this.2.1, this.2.2.1, this.2.2.2.mono (Map.le_append m _)⟩
  exact := by
   intro b n t e' g s z h hm hx
   obtain ⟨h, hm⟩ := old (no hm) h hm
   exact F.exact b n t e' g s z h hm hx
  ro := by
   intro b t g s z h hm
   obtain ⟨h, hm⟩ := old (no hm) h hm
   exact (F.ro b t g s z h hm).mono (Map.le_append m _)
  glob := by
   intro b t h
   by_cases eb : H.next = b
   ·subst eb; rw [get_new_same] at h; unfold rowOf at h; cases h
   ·rw [get_new_other _ eb] at h
    obtain ⟨z, h1, h2⟩ := F.glob b t h
    exact ⟨z, Map.le_append m _ _ _ h1, h2.mono (Map.le_append m _)⟩
  sep := by
   intro b1 b2 o1 o2 g s z s' z' hne h1 h2 a1 a2 m1 m2
   obtain ⟨h1, m1⟩ := old (no m1) h1 m1
   obtain ⟨h2, m2⟩ := old (no m2) h2 m2
   exact F.sep b1 b2 o1 o2 g s z s' z' hne h1 h2 a1 a2 m1 m2 }
theorem Ext.set {m0 m : Map} (h : Ext m0 m) {id : Nat} {p : Nat × Nat × Nat} (hm : m[id]? = some none) (hid : m0.length ≤ id) : Ext m0 (m.set id (some p)) where
 le := Map.le_trans h.le (Map.le_set hm p)
 virt k hk := by
  have : k < m0.length := (List.getElem?_eq_some_iff.1 hk).1
  rw [List.getElem?_set_ne (by omega)]
  exact h.virt k hk
theorem Ext.len {m m' : Map} (h : Ext m m') : m.length ≤ m'.length := by
 rcases Nat.lt_or_ge m'.length m.length with hl | hl
 ·exfalso
  have hx : m[m'.length]? = some m[m'.length] := List.getElem?_eq_getElem hl
  have hn : m'[m'.length]? = none := List.getElem?_eq_none (Nat.le_refl _)
  cases hc : m[m'.length] with
  | none => rw [hc] at hx; have := h.virt _ hx; rw [hn] at this; cases this
  | some p => rw [hc] at hx; have := h.le _ _ hx; rw [hn] at this; cases this
 ·exact hl
end
end
end Go.Proofs.Ytpnccmlajhhpdaa.Abs
namespace Go.Proofs.Ytpnccmlajhhpdaa.Abs
noncomputable section
open Go.RowKit
section
variable {P : Program} {m m0 : Map} {w0 : Base} {w : World} {H H' : AHeap} {nx : ANext} {ops : Array Oper} {N : Nat}
def Pend (P : Program) (ops : Array Oper) (m0 m : Map) (H : AHeap) (a : AAct) (rs : List Rec) (ids : Nat → Option Nat) (i : Nat) (o : Oper) : Prop :=
  (wantedT ops a.tmps.get o.guard = some false ∧ ∀ d, o.dst = some d → a.tmps.get d = some (.tup [])) ∨
  (wantedT ops a.tmps.get o.guard = some true ∧
    ((∃ v, (∀ h, opA P a.eval o h = some (.val v, h)) ∧ ∀ d, o.dst = some d → a.tmps.get d = some v) ∨
     (∃ v r, isRead o.op = true ∧ opA P a.eval o H = some (.val v, H) ∧ (∀ d, o.dst = some d → a.tmps.get d = some v) ∧ r ∈ rs ∧ r.i = i ∧ r.o = o) ∨
     (∃ id x e n t r, ids i = some id ∧ ((o.op = .alloc e ∧ zeroA P e = some x) ∨ ∃ y, o.op = .box e y ∧ a.eval y = some x) ∧ x.cells.all AV.one = true ∧ (∀ d, o.dst = some d → a.tmps.get d = some (.ptr id 0)) ∧
        H.get id = some (.row n t e) ∧ n = x.cells.length ∧ (∀ k, k < n → t.get k = x.cells[k]?) ∧ m[id]? = some none ∧ m0.length ≤ id ∧ r ∈ rs ∧ r.i = i ∧ r.o = o ∧ r.id = id ∧ r.e = e ∧ r.cells = x.cells)))
inductive Ordered (ops : Array Oper) : List Nat → Prop
 | nil : Ordered ops []
 | cons {i : Nat} {l : List Nat} (h : ∀ j ∈ edgesAt ops i, j ∈ l) (hi : i ∉ l) (o : Ordered ops l) : Ordered ops (i :: l)
theorem Ordered.closed {l : List Nat} (h : Ordered ops l) : ∀ i ∈ l, ∀ j ∈ edgesAt ops i, j ∈ l := by
 induction h with
 | nil => intro i hi; simp at hi
 | cons h hi _ ih =>
  intro i hi j hj
  rcases List.mem_cons.1 hi with rfl | hi
  ·exact List.mem_cons_of_mem _ (h j hj)
  ·exact List.mem_cons_of_mem _ (ih i hi j hj)
theorem Ordered.first {S : Nat → Prop} {l : List Nat} (h : Ordered ops l) : (∃ i ∈ l, ¬ S i) → ∃ i ∈ l, ¬ S i ∧ ∀ j ∈ edgesAt ops i, S j := by
 induction h with
 | nil => rintro ⟨i, hi, _⟩; simp at hi
 | @cons i l h hi o ih =>
  rintro ⟨k, hk, hs⟩
  by_cases hex : ∃ i ∈ l, ¬ S i
  ·obtain ⟨j, h1, h2, h3⟩ := ih hex
   exact ⟨j, List.mem_cons_of_mem _ h1, h2, h3⟩
  ·have all : ∀ j ∈ l, S j := fun j hj => Classical.byContradiction fun hn => hex ⟨j, hj, hn⟩
   rcases List.mem_cons.1 hk with rfl | hk
   ·exact ⟨k, by simp, hs, fun j hj => all j (h j hj)⟩
   ·exact absurd (all k hk) hs
structure Lag (P : Program) (ops : Array Oper) (w0 : Base) (m0 : Map) (N : Nat) (don : List Nat) (a : AAct) (H : AHeap) (rs : List Rec) (ids : Nat → Option Nat) (listed : Array Bool) (m : Map) (act : Act) (w : World) : Prop where
 size : listed.size = ops.size
 sub : ∀ i, listed[i]? = some true → i ∈ don
 lt : ∀ i ∈ don, i < ops.size
 closedS : ∀ i, listed[i]? = some true → ∀ j ∈ edgesAt ops i, listed[j]? = some true
 ord : Ordered ops don
 kind : ∀ i ∈ don, listed[i]? ≠ some true → kindAt P ops i < 3
 fits : Fits w0 m H w
 ext : Ext m0 m
 asize : act.tmps.size = N
 slots : ∀ t, (∃ i ∈ don, listed[i]? ≠ some true ∧ dstAt ops i = some t) ∨ Slot m a act t
 defers : RelD m a.defers act.defers
 pend : ∀ i ∈ don, listed[i]? ≠ some true → ∀ o, ops[i]? = some o → Pend P ops m0 m H a rs ids i o
 inj : ∀ i j b, ids i = some b → ids j = some b → i = j
 idlt : ∀ i b, ids i = some b → i ∈ don ∧ b < m.length
theorem okTmps_ok (h : okTmps ops = true) {i j : Nat} (hi : i < ops.size) (hj : j < ops.size) : okTmp ops i j = true := by
 simp only [okTmps, allB_iff] at h
 exact h i (List.mem_range.2 hi) j (List.mem_range.2 hj)
theorem okTmp_reads {i j t : Nat} (h : okTmp ops i j = true) (hd : dstAt ops j = some t) (hr : t ∈ readsAt ops i) : j ∈ edgesAt ops i ∨ i ∈ edgesAt ops j := by
 simp only [okTmp, hd, Bool.and_eq_true, Bool.or_eq_true, Bool.not_eq_true'] at h
 rcases h.1 with (h | h) | h
 ·have := memB_iff.2 hr
  rw [this] at h; cases h
 ·exact .inl (memB_iff.1 h)
 ·exact .inr (memB_iff.1 h)
theorem okTmp_dst {i j t : Nat} (h : okTmp ops i j = true) (hd : dstAt ops j = some t) (hne : i ≠ j) : dstAt ops i ≠ some t := by
 simp only [okTmp, hd, Bool.and_eq_true, Bool.or_eq_true, Bool.not_eq_true'] at h
 rcases h.2 with h | h
 ·exact absurd (by simpa using h) hne
 ·simpa using h
theorem kind_anti {i : Nat} (h : kindAt P ops i < 3) : antiAt ops i = false := by
 unfold kindAt at h
 split at h
 ·unfold kindX at h
  split at h
  ·omega
  ·assumption
 ·omega
theorem kindX_lt {i : Nat} {o : Op} {k : Nat} (h : kindX P ops i o = k) (hk : k < 3) : kindOf P o = k := by
 unfold kindX at h
 split at h
 ·omega
 ·exact h
theorem anti_ok {i k t : Nat} (h : antiAt ops i = false) (hd : dstAt ops i = some t) (hk : k < ops.size) (hr : t ∈ readsAt ops k) : i ∈ edgesAt ops k := by
 simp only [antiAt, hd, List.any_eq_false, List.mem_range, Bool.and_eq_true, Bool.not_eq_true', not_and] at h
 have := h k hk (memB_iff.2 hr)
 simp only [Bool.not_eq_false] at this
 exact memB_iff.1 this
variable {don : List Nat} {a : AAct} {rs : List Rec} {ids : Nat → Option Nat} {listed : Array Bool} {act : Act}
theorem Lag.reads (L : Lag P ops w0 m0 N don a H rs ids listed m act w) (hok : okTmps ops = true) {i : Nat} (hi : i < ops.size) (hS : ∀ j ∈ edgesAt ops i, listed[j]? = some true) : ∀ t ∈ readsAt ops i, Slot m a act t := by
 intro t ht
 rcases L.slots t with ⟨j, hj, hp, hd⟩ | h
 ·exfalso
  have hjs := L.lt j hj
  rcases okTmp_reads (okTmps_ok hok hi hjs) hd ht with h | h
  ·exact hp (hS j h)
  ·exact hp (hS j (anti_ok (kind_anti (L.kind j hj hp)) hd hi ht))
 ·exact h
theorem Lag.apart (L : Lag P ops w0 m0 N don a H rs ids listed m act w) (hok : okTmps ops = true) {i j t : Nat} (hi : i < ops.size) (hid : i ∉ don) (hj : j ∈ don) (hp : listed[j]? ≠ some true)
  (hx : kindAt P ops i < 3 ∨ ∀ k ∈ edgesAt ops i, listed[k]? = some true) (hd : dstAt ops i = some t) : t ∉ readsAt ops j ∧ dstAt ops j ≠ some t := by
 have hjs := L.lt j hj
 have hne : j ≠ i := fun e => hid (e ▸ hj)
 refine ⟨fun hr => ?_, okTmp_dst (okTmps_ok hok hjs hi) hd hne⟩
 have hno : i ∉ edgesAt ops j := fun h => hid (L.ord.closed j hj i h)
 rcases hx with hx | hx
 ·exact hno (anti_ok (kind_anti hx) hd hjs hr)
 ·rcases okTmp_reads (okTmps_ok hok hjs hi) hd hr with h | h
  ·exact hno h
  ·exact hp (hx j h)
theorem reads_of {i : Nat} {o : Oper} (ho : ops[i]? = some o) : readsAt ops i = guardTmp ops o.guard ++ tmpsOf o.op.operands.toList := by simp [readsAt, ho]
theorem dst_of {i : Nat} {o : Oper} (ho : ops[i]? = some o) : dstAt ops i = o.dst := by simp [dstAt, ho]
theorem get_put_slot {a : AAct} {d : Option Tmp} {v : AV} {t : Nat} (h : d ≠ some t) : (a.put d v).tmps.get t = a.tmps.get t := by
 cases d with
 | none => rfl
 | some s => exact T.get_set_other _ _ (fun e => h (by rw [e]))
theorem eval_put {a : AAct} {d : Option Tmp} {v : AV} {x : Operand} (h : ∀ t, x = .tmp t → d ≠ some t) : (a.put d v).eval x = a.eval x := by
 cases x with
 | tmp t => exact get_put_slot (h t rfl)
 | const c => rfl
 | global g => rfl
 | func f => rfl
theorem wantedT_congr {f g : Nat → Option AV} {gd : Option (Nat × Bool)} (h : ∀ t ∈ guardTmp ops gd, f t = g t) : wantedT ops f gd = wantedT ops g gd := by
 unfold wantedT
 split
 ·rfl
 ·rename_i j want
  cases ho : ops[j]? with
  | none => rfl
  | some o =>
   simp only
   cases hd : o.dst with
   | none => rfl
   | some d =>
    have : dstAt ops j = some d := by simp [dstAt, ho, hd]
    simp only
    rw [h d (by simp [guardTmp, this])]
theorem Pend.keep {m' : Map} {a' : AAct} {rs' : List Rec} {ids' : Nat → Option Nat} {i : Nat} {o : Oper} (ho : ops[i]? = some o) (h : Pend P ops m0 m H a rs ids i o) (hr : ∀ t ∈ readsAt ops i, a'.tmps.get t = a.tmps.get t) (hd : ∀ d, o.dst = some d → a'.tmps.get d = a.tmps.get d)
  (hload : ∀ v r, isRead o.op = true → opA P a.eval o H = some (.val v, H) → (∀ d, o.dst = some d → a.tmps.get d = some v) → opA P a'.eval o H = some (.val v, H) → r ∈ rs → r.i = i → r.o = o → opA P a'.eval o H' = some (.val v, H'))
  (hrow : ∀ id n t e l r, H.get id = some (.row n t e) → n = l.length → (∀ k, k < n → t.get k = l[k]?) → ids i = some id → r ∈ rs → r.i = i → r.o = o → r.id = id → r.e = e → r.cells = l → ((∃ e, o.op = .alloc e) ∨ ∃ e y, o.op = .box e y) → ∃ t', H'.get id = some (.row n t' e) ∧ ∀ k, k < n → t'.get k = l[k]?)
  (hm : ∀ id, ids i = some id → m[id]? = some none → m'[id]? = some none) (hrs : ∀ r ∈ rs, r ∈ rs') (hids : ids' i = ids i) : Pend P ops m0 m' H' a' rs' ids' i o := by
 have hw : wantedT ops a'.tmps.get o.guard = wantedT ops a.tmps.get o.guard := wantedT_congr fun t ht => hr t (by rw [reads_of ho]; exact List.mem_append_left _ ht)
 have he : ∀ x ∈ o.op.operands.toList, a'.eval x = a.eval x := by
  intro x hx
  cases x with
  | tmp t => exact hr t (by rw [reads_of ho]; exact List.mem_append_right _ (mem_tmps hx))
  | const c => rfl
  | global g => rfl
  | func f => rfl
 have hop : ∀ hp, opA P a'.eval o hp = opA P a.eval o hp := opA_congr o he
 rcases h with ⟨h1, h2⟩ | ⟨h1, h⟩
 ·exact .inl ⟨hw.trans h1, fun d e => (hd d e).trans (h2 d e)⟩
 ·refine .inr ⟨hw.trans h1, ?_⟩
  rcases h with ⟨v, h2, h3⟩ | ⟨v, r, hl, h2, h3, h4, h5, h6⟩ | ⟨id, x, e, n, t, r, h2, h3, h4, h5, h6, h7, h8, h9, h10, h11, h12, h13, h14, h15, h16⟩
  ·exact .inl ⟨v, fun hp => (hop hp).trans (h2 hp), fun d e => (hd d e).trans (h3 d e)⟩
  ·exact .inr (.inl ⟨v, r, hl, hload v r hl h2 h3 ((hop H).trans h2) h4 h5 h6, fun d e => (hd d e).trans (h3 d e), hrs r h4, h5, h6⟩)
  ·obtain ⟨t', h17, h18⟩ := hrow id n t e x.cells r h6 h7 h8 h2 h11 h12 h13 h14 h15 h16 (by
    rcases h3 with ⟨h3, _⟩ | ⟨y, h3, _⟩
    ·exact .inl ⟨e, h3⟩
    ·exact .inr ⟨e, y, h3⟩)
   refine .inr (.inr ⟨id, x, e, n, t', r, hids.trans h2, ?_, h4, fun d e => (hd d e).trans (h5 d e), h17, h7, h18, hm id h2 h9, h10, hrs r h11, h12, h13, h14, h15, h16⟩)
   rcases h3 with h3 | ⟨y, h3, h3'⟩
   ·exact .inl h3
   ·exact .inr ⟨y, h3, (he y (by rw [h3]; simp [Op.operands])).trans h3'⟩
end
end
end Go.Proofs.Ytpnccmlajhhpdaa.Abs
namespace Go.Proofs.Ytpnccmlajhhpdaa.Abs
noncomputable section
open Go.RowKit
section
variable {P : Program} {m m0 : Map} {w0 : Base} {w : World} {H H' : AHeap} {nx : ANext} {ops : Array Oper} {N : Nat}
variable {don : List Nat} {a : AAct} {rs : List Rec} {ids : Nat → Option Nat} {listed : Array Bool} {act : Act}
theorem set_listed {i k : Nat} (hi : i < listed.size) : (listed.setIfInBounds i true)[k]? = some true ↔ (k = i ∨ listed[k]? = some true) := by
 by_cases e : i = k
 ·subst e
  rw [Array.getElem?_setIfInBounds_self_of_lt hi]
  simp
 ·rw [Array.getElem?_setIfInBounds_ne e]
  constructor
  ·exact .inr
  ·rintro (h | h)
   ·exact absurd h.symm e
   ·exact h
theorem ready_iff {i : Nat} (hs : listed.size = ops.size) : i ∈ Region.ready .any ops listed ↔ i < ops.size ∧ listed[i]? = some false ∧ ∀ j ∈ edgesAt ops i, listed[j]? = some true := by
 unfold Region.ready
 rw [List.mem_filter, List.mem_range]
 constructor
 ·rintro ⟨h1, h2⟩
  have hl : i < listed.size := by omega
  have ho : ops[i]? = some ops[i] := Array.getElem?_eq_getElem h1
  have hli : listed[i]? = some listed[i] := Array.getElem?_eq_getElem hl
  simp only [Bool.and_eq_true, Bool.not_eq_true', ho, Option.map_some, Option.getD_some, Array.all_eq_true_iff_forall_mem, Bool.or_eq_true] at h2
  obtain ⟨h3, h4⟩ := h2
  refine ⟨h1, ?_, ?_⟩
  ·simp only [Array.getD_eq_getD_getElem?, hli, Option.getD_some] at h3
   rw [hli, h3]
  ·intro j hj
   simp only [edgesAt, ho, edgesOf, List.mem_map, List.mem_filter, Array.mem_toList_iff] at hj
   obtain ⟨e, ⟨he, hb⟩, rfl⟩ := hj
   rcases h4 e he with h | h
   ·rw [hb] at h; cases h
   ·simp only [Array.getD_eq_getD_getElem?] at h
    cases hx : listed[e.on]? with
    | none => rw [hx] at h; cases h
    | some b => rw [hx] at h; simp only [Option.getD_some] at h; rw [h]
 ·rintro ⟨h1, h2, h3⟩
  have ho : ops[i]? = some ops[i] := Array.getElem?_eq_getElem h1
  refine ⟨h1, ?_⟩
  simp only [Bool.and_eq_true, Bool.not_eq_true', ho, Option.map_some, Option.getD_some, Array.all_eq_true_iff_forall_mem, Bool.or_eq_true]
  refine ⟨by simp [Array.getD_eq_getD_getElem?, h2], fun e he => ?_⟩
  by_cases hb : Region.binds .any e = true
  ·right
   have := h3 e.on (by
    simp only [edgesAt, ho, edgesOf, List.mem_map, List.mem_filter, Array.mem_toList_iff]
    exact ⟨e, ⟨he, hb⟩, rfl⟩)
   simp [Array.getD_eq_getD_getElem?, this]
  ·left; simpa using hb
theorem Lag.did (L : Lag P ops w0 m0 N don a H rs ids listed m act w) {i : Nat} {o : Oper} (ho : ops[i]? = some o) (hd : okDst N o = true) (hi : i ∈ don) (hS : ∀ j ∈ edgesAt ops i, listed[j]? = some true) {m' : Map} {w' : World} (he : Ext m0 m') (hle : Map.le m m') (hlen : m.length ≤ m'.length)
  (hvirt : ∀ j id, j ≠ i → ids j = some id → m[id]? = some none → m'[id]? = some none) (F' : Fits w0 m' H w') {v' : Value} (hv : ∀ t, o.dst = some t → ∀ u, a.tmps.get t = some u → Rel m' u v') :
  Lag P ops w0 m0 N don a H rs ids (listed.setIfInBounds i true) m' (act.put o.dst v') w' := by
 have hil : i < listed.size := by rw [L.size]; exact L.lt i hi
 have not : ∀ {k}, (listed.setIfInBounds i true)[k]? ≠ some true → k ≠ i ∧ listed[k]? ≠ some true := fun h => ⟨fun e => h ((set_listed hil).2 (.inl e)), fun e => h ((set_listed hil).2 (.inr e))⟩
 exact {
  size := by simp [L.size]
  sub := fun k hk => by
   rcases (set_listed hil).1 hk with rfl | hk
   ·exact hi
   ·exact L.sub k hk
  lt := L.lt
  closedS := fun k hk j hj => by
   rcases (set_listed hil).1 hk with rfl | hk
   ·exact (set_listed hil).2 (.inr (hS j hj))
   ·exact (set_listed hil).2 (.inr (L.closedS k hk j hj))
  ord := L.ord
  kind := fun k hk h => L.kind k hk (not h).2
  fits := F'
  ext := he
  asize := by rw [put_size]; exact L.asize
  slots := fun t => by
   by_cases hdt : o.dst = some t
   ·right
    intro u hu
    have hlt : t < N := by
     simp only [okDst, hdt] at hd
     exact Nat.le_of_ble_eq_true hd
    refine ⟨v', ?_, hv t hdt u hu⟩
    rw [hdt]
    simp [Act.put, L.asize, hlt]
   ·rcases L.slots t with ⟨k, h1, h2, h3⟩ | h
    ·left
     refine ⟨k, h1, fun h => ?_, h3⟩
     rcases (set_listed hil).1 h with rfl | h
     ·rw [dst_of ho] at h3; exact hdt h3
     ·exact h2 h
    ·right
     intro u hu
     obtain ⟨u', h1, h2⟩ := h u hu
     refine ⟨u', ?_, h2.mono hle⟩
     cases hod : o.dst with
     | none => exact h1
     | some s =>
      have : s ≠ t := fun e => hdt (by rw [hod, e])
      simp only [Act.put]
      rw [Array.getElem?_setIfInBounds_ne this]
      exact h1
  defers := by rw [put_defersV]; exact L.defers.mono hle
  pend := fun k hk hkl o' ho' => by
   obtain ⟨hki, hkl⟩ := not hkl
   exact (L.pend k hk hkl o' ho').keep ho' (fun _ _ => rfl) (fun _ _ => rfl) (fun v r _ h _ _ _ _ _ => h) (fun id n t e l r h _ h2 _ _ _ _ _ _ _ _ => ⟨t, h, h2⟩) (fun id h => hvirt k id hki h) (fun _ h => h) rfl
  inj := L.inj
  idlt := fun k b h => ⟨(L.idlt k b h).1, Nat.lt_of_lt_of_le (L.idlt k b h).2 hlen⟩ }
theorem Lag.run (L : Lag P ops w0 m0 N don a H rs ids listed m act w) (hok : okTmps ops = true) {i : Nat} {o : Oper} (ho : ops[i]? = some o) (hd : okDst N o = true) (hi : i ∈ don) (hp : listed[i]? ≠ some true) (hS : ∀ j ∈ edgesAt ops i, listed[j]? = some true) {K : Act → World → Prop} {Q : Exit → Act → World → Prop}
  (hK : ∀ m' act' w', Lag P ops w0 m0 N don a H rs ids (listed.setIfInBounds i true) m' act' w' → K act' w') : wpOp P ops Q i K act w := by
 have hsl := L.reads hok (L.lt i hi) hS
 rw [reads_of ho] at hsl
 have hop : ∀ x ∈ o.op.operands.toList, ∀ v, a.eval x = some v → Rel m v (act.eval x) := fun x hx v hv => eval_ok (fun t e => hsl t (List.mem_append_right _ (mem_tmps (e ▸ hx)))) v hv
 have hwant : ∀ b, wantedT ops a.tmps.get o.guard = some b → Region.wanted o (yielded ops act.tmps) = b := fun b h => wanted_ok (fun t ht => hsl t (List.mem_append_left _ ht)) h
 unfold wpOp
 simp only [ho]
 rcases L.pend i hi hp o ho with ⟨h1, h2⟩ | ⟨h1, h⟩
 ·rw [hwant _ h1]
  simp only [Bool.false_eq_true, if_false]
  exact hK m _ w (L.did ho hd hi hS L.ext (Map.le_refl m) (Nat.le_refl _) (fun _ _ _ _ h => h) L.fits (fun t ht u hu => by
   rw [h2 t ht] at hu; cases hu; exact .tup .nil))
 ·rw [hwant _ h1]
  simp only [if_true]
  left
  have plain : ∀ v, opA P a.eval o H = some (.val v, H) → (∀ d, o.dst = some d → a.tmps.get d = some v) → o.wp P act w K Q := by
   intro v h2 h3
   obtain ⟨m', w', he, F', v', hrun, hv⟩ := opA_ok L.fits o hop h2
   rw [Oper.wp, hrun]
   exact hK m' _ w' (L.did ho hd hi hS (L.ext.trans he) he.le he.len (fun _ _ _ _ h => he.virt _ h) F' (fun t ht u hu => by
    rw [h3 t ht] at hu; cases hu; exact hv))
  rcases h with ⟨v, h2, h3⟩ | ⟨v, r, hl, h2, h3, _⟩ | ⟨id, x, e, n, t, r, h2, h3, h4, h5, h6, h7, h8, h9, h10, _⟩
  ·exact plain v (h2 H) h3
  ·exact plain v h2 h3
  ·have fin : ∀ x' : Value, Rel m x x' → (execOp act.eval o).run P w = .ok (.value (.pointer (some ⟨w.heap.size, 0, none⟩))) (w.alloc (.cells x'.cells e)) → o.wp P act w K Q := by
    intro x' hx hrun
    rw [Oper.wp, hrun]
    have F' := L.fits.fill h9 h6 h7 h8 hx.cells h4
    have ex : x'.cells.toList.toArray = x'.cells := by simp
    rw [ex] at F'
    have hidl : id < m.length := (List.getElem?_eq_some_iff.1 h9).1
    refine hK _ _ _ (L.did ho hd hi hS (L.ext.set h9 h10) (Map.le_set h9 _) (by simp) (fun j id' hj hid' hm => ?_) F' (fun s hs u hu => ?_))
    ·have : id ≠ id' := fun e => hj (L.inj j i id' hid' (by rw [← e]; exact h2))
     rw [List.getElem?_set_ne this]; exact hm
    ·rw [h5 s hs] at hu; cases hu
     have := Rel.ptr (m := m.set id (some (w.heap.size, 0, x'.cells.toList.length))) (b := id) (o := 0) (List.getElem?_set_self hidl)
     simpa using this
   obtain ⟨dst, op, ty, pos, after, guard⟩ := o
   simp only at h3 hop
   rcases h3 with ⟨rfl, hz⟩ | ⟨y, rfl, hy⟩
   ·obtain ⟨i', zv, hi', hzv, hrel, _, _⟩ := zero_ok m hz
    refine fin zv hrel ?_
    simp [execOp, Instr.alloc, zeroValue, typeInfo, hi', hzv, newVar, newRow]
   ·have hrel := hop y (by simp [Op.operands]) x hy
    refine fin _ hrel ?_
    simp [execOp, Instr.box, newVar, newRow]
theorem Lag.more (L : Lag P ops w0 m0 N don a H rs ids listed m act w) (hok : okTmps ops = true) {i : Nat} {o : Oper} (ho : ops[i]? = some o) (hid : i ∉ don) (hE : ∀ j ∈ edgesAt ops i, j ∈ don) (hk : kindAt P ops i < 3) {m' : Map} {v : AV} {rs' : List Rec} {ids' : Nat → Option Nat}
  (he : Ext m m') (F' : Fits w0 m' H' w) (hH : ∀ b, (H.get b).isSome = true → H'.get b = H.get b) (hrs : ∀ r ∈ rs, r ∈ rs') (hids : ∀ j, j ≠ i → ids' j = ids j) (hidi : ∀ b, ids' i = some b → m.length ≤ b ∧ b < m'.length)
  (hpend : Pend P ops m0 m' H' (a.put o.dst v) rs' ids' i o) : Lag P ops w0 m0 N (i :: don) (a.put o.dst v) H' rs' ids' listed m' act w := by
 have hi : i < ops.size := (Array.getElem?_eq_some_iff.1 ho).1
 exact {
  size := L.size
  sub := fun k hk => List.mem_cons_of_mem _ (L.sub k hk)
  lt := fun k hk => by
   rcases List.mem_cons.1 hk with rfl | hk
   ·exact hi
   ·exact L.lt k hk
  closedS := L.closedS
  ord := .cons hE hid L.ord
  kind := fun k hk' h => by
   rcases List.mem_cons.1 hk' with rfl | hk'
   ·exact hk
   ·exact L.kind k hk' h
  fits := F'
  ext := L.ext.trans he
  asize := L.asize
  slots := fun t => by
   by_cases hdt : o.dst = some t
   ·left
    exact ⟨i, by simp, fun h => hid (L.sub i h), by rw [dst_of ho]; exact hdt⟩
   ·rcases L.slots t with ⟨k, h1, h2, h3⟩ | h
    ·exact .inl ⟨k, List.mem_cons_of_mem _ h1, h2, h3⟩
    ·right
     intro u hu
     rw [get_put_slot hdt] at hu
     obtain ⟨u', h1, h2⟩ := h u hu
     exact ⟨u', h1, h2.mono he.le⟩
  defers := by rw [put_defersA]; exact L.defers.mono he.le
  pend := fun k hk' hkl o' ho' => by
   rcases List.mem_cons.1 hk' with rfl | hk'
   ·rw [ho] at ho'; cases ho'; exact hpend
   ·have hki : k ≠ i := fun e => hid (e ▸ hk')
    have hap : ∀ t, o.dst = some t → t ∉ readsAt ops k ∧ dstAt ops k ≠ some t := fun t ht => L.apart hok hi hid hk' hkl (.inl hk) (by rw [dst_of ho]; exact ht)
    refine (L.pend k hk' hkl o' ho').keep ho' (fun t ht => get_put_slot fun e => (hap t e).1 ht) (fun d hd => get_put_slot fun e => (hap d e).2 (by rw [dst_of ho']; exact hd)) ?_ ?_ (fun id _ h => he.virt id h) hrs (hids k hki)
    ·intro v r hl _ _ h _ _ _
     obtain ⟨v2, e1, _, h4⟩ := read_out hl h
     cases e1
     exact h4 H' hH
    ·intro id n t e l r h _ h2 _ _ _ _ _ _ _ _
     exact ⟨t, by rw [hH id (by rw [h]; rfl)]; exact h, h2⟩
  inj := fun j k b hj hk' => by
   by_cases e1 : j = i
   ·by_cases e2 : k = i
    ·rw [e1, e2]
    ·subst e1
     rw [hids k e2] at hk'
     have := (L.idlt k b hk').2
     have := (hidi b hj).1
     omega
   ·rw [hids j e1] at hj
    by_cases e2 : k = i
    ·subst e2
     have := (L.idlt j b hj).2
     have := (hidi b hk').1
     omega
    ·rw [hids k e2] at hk'
     exact L.inj j k b hj hk'
  idlt := fun j b hj => by
   by_cases e1 : j = i
   ·subst e1; exact ⟨by simp, (hidi b hj).2⟩
   ·rw [hids j e1] at hj
    have := L.idlt j b hj
    exact ⟨List.mem_cons_of_mem _ this.1, Nat.lt_of_lt_of_le this.2 he.len⟩ }
end
end
end Go.Proofs.Ytpnccmlajhhpdaa.Abs
namespace Go.Proofs.Ytpnccmlajhhpdaa.Abs
noncomputable section
open Go.RowKit
section
variable {P : Program} {m m0 : Map} {w0 : Base} {w : World} {H H' : AHeap} {nx : ANext} {ops : Array Oper} {N : Nat}
variable {don : List Nat} {a a' : AAct} {rs : List Rec} {ids : Nat → Option Nat} {listed : Array Bool} {act : Act} {call : CallF}
def recsOf (P : Program) (ops : Array Oper) (a : AAct) (H : AHeap) (i : Nat) (o : Oper) (rs : List Rec) : List Rec := match kindX P ops i o.op with
 | 0 => rs
 | _ => match wantedT ops a.tmps.get o.guard with
  | some true => ⟨i, o, H.next, boxType o.op, boxCells P a o.op⟩ :: rs
  | _ => rs
theorem recsOf_sub (i : Nat) (o : Oper) : ∀ r ∈ rs, r ∈ recsOf P ops a H i o rs := by
 intro r hr
 unfold recsOf
 split
 ·exact hr
 ·split
  ·exact List.mem_cons_of_mem _ hr
  ·exact hr
theorem kindAt_of {i : Nat} {o : Oper} (ho : ops[i]? = some o) : kindAt P ops i = kindX P ops i o.op := by simp [kindAt, ho]
theorem Lag.ahead (L : Lag P ops w0 m0 N don a H rs ids listed m act w) (hok : okTmps ops = true) {i : Nat} {o : Oper} (ho : ops[i]? = some o) (hid : i ∉ don) (hE : ∀ j ∈ edgesAt ops i, j ∈ don) (hk : kindX P ops i o.op < 3) (hst : stepA P call ops o a H = some (.go a' H')) :
  ∃ m' ids', Lag P ops w0 m0 N (i :: don) a' H' (recsOf P ops a H i o rs) ids' listed m' act w := by
 have hi : i < ops.size := (Array.getElem?_eq_some_iff.1 ho).1
 have hkA : kindAt P ops i < 3 := by rw [kindAt_of ho]; exact hk
 -- its own slots
 have hown : ∀ t, o.dst = some t → t ∉ readsAt ops i := by
  intro t ht hr
  have := okTmp_reads (okTmps_ok hok hi hi) (by rw [dst_of ho]; exact ht) hr
  rcases this with h | h <;> exact hid (hE i h)
 have hwput : ∀ v, wantedT ops (a.put o.dst v).tmps.get o.guard = wantedT ops a.tmps.get o.guard := fun v => wantedT_congr fun t ht => get_put_slot fun e => hown t e (by rw [reads_of ho]; exact List.mem_append_left _ ht)
 have heput : ∀ v, ∀ x ∈ o.op.operands.toList, (a.put o.dst v).eval x = a.eval x := fun v x hx => eval_put fun t e he => hown t he (by rw [reads_of ho]; exact List.mem_append_right _ (mem_tmps (e ▸ hx)))
 have hdput : ∀ v d, o.dst = some d → (a.put o.dst v).tmps.get d = some v := by
  intro v d hd
  rw [hd]
  exact T.get_set_same _ _ _
 unfold stepA at hst
 split at hst
 ·rename_i hw
  cases hopA : opA P a.eval o H with
  | none => rw [hopA] at hst; cases hst
  | some p =>
   obtain ⟨nx, H1⟩ := p
   rw [hopA] at hst
   have hkk : kindOf P o.op = kindX P ops i o.op := kindX_lt rfl hk
   by_cases h0 : kindX P ops i o.op = 0
   ·obtain ⟨v, rfl, rfl, hfree⟩ := kind0 (hkk.trans h0) hopA
    simp only [stepOut, stepPut, Option.some.injEq, AStep.go.injEq] at hst
    obtain ⟨rfl, rfl⟩ := hst
    refine ⟨m, fun k => if k = i then none else ids k, L.more hok ho hid hE hkA (Ext.refl m) L.fits (fun _ _ => rfl) (recsOf_sub i o) (fun j hj => by simp [hj]) (fun b hb => by simp at hb) ?_⟩
    exact .inr ⟨(hwput v).trans hw, .inl ⟨v, fun hp => (opA_congr o (heput v) hp).trans (hfree hp), hdput v⟩⟩
   ·have hrec : (⟨i, o, H.next, boxType o.op, boxCells P a o.op⟩ : Rec) ∈ recsOf P ops a H i o rs := by
     unfold recsOf
     split
     ·rename_i e; exact absurd e h0
     ·rw [hw]; simp
    by_cases h1 : kindX P ops i o.op = 1
    ·have hl := kind1 (hkk.trans h1)
     obtain ⟨v, rfl, rfl, _⟩ := read_out hl hopA
     simp only [stepOut, stepPut, Option.some.injEq, AStep.go.injEq] at hst
     obtain ⟨rfl, rfl⟩ := hst
     refine ⟨m, fun k => if k = i then none else ids k, L.more hok ho hid hE hkA (Ext.refl m) L.fits (fun _ _ => rfl) (recsOf_sub i o) (fun j hj => by simp [hj]) (fun b hb => by simp at hb) ?_⟩
     exact .inr ⟨(hwput v).trans hw, .inr (.inl ⟨v, _, hl, (opA_congr o (heput v) H1).trans hopA, hdput v, hrec, rfl, rfl⟩)⟩
    ·have h2 : kindOf P o.op = 2 := by rw [hkk]; omega
     have key : ∀ (e : TypeId) (z : Option AV), opBox H e z = some (nx, H1) → boxType o.op = e → (∀ x, z = some x → boxCells P a o.op = x.cells) → (∀ x v, z = some x → (o.op = .alloc e ∧ zeroA P e = some x) ∨ ∃ y, o.op = .box e y ∧ (a.put o.dst v).eval y = some x) →
       ∃ m' ids', Lag P ops w0 m0 N (i :: don) a' H' (recsOf P ops a H i o rs) ids' listed m' act w := by
      intro e z hb ht hcells hop
      obtain ⟨x, rfl, hone, rfl, rfl, _⟩ := box_out hb
      simp only [stepOut, stepPut, Option.some.injEq, AStep.go.injEq] at hst
      obtain ⟨rfl, rfl⟩ := hst
      have hlen := L.fits.len
      refine ⟨m ++ [none], fun k => if k = i then some H.next else ids k, L.more hok ho hid hE hkA (Ext.append m _) (L.fits.later x.cells e) (fun b hb => ?_) (recsOf_sub i o) (fun j hj => by simp [hj]) (fun b hb => ?_) ?_⟩
      ·obtain ⟨ob, hob⟩ := Option.isSome_iff_exists.1 hb
       exact get_new_other _ (fun e => by have := L.fits.lt_next hob; omega)
      ·simp at hb; subst hb
       simp; omega
      ·refine .inr ⟨(hwput _).trans hw, .inr (.inr ⟨H.next, x, e, x.cells.length, T.put .e 0 x.cells, _, by simp, hop x _ rfl, hone, hdput _, get_new_same _, rfl, fun k hk => by rw [rowOf_get], ?_, ?_, hrec, rfl, rfl, rfl, ht, hcells x rfl⟩)⟩
       ·rw [← hlen, List.getElem?_append_right (Nat.le_refl _)]; simp
       ·rw [← hlen]; exact L.ext.len
     rcases kind2 h2 with ⟨e, hl⟩ | ⟨e, y, hl⟩
     ·have hb : opBox H e (zeroA P e) = some (nx, H1) := by
       have : opA P a.eval o H = opBox H e (zeroA P e) := by simp only [opA, opTable, hl, do_alloc]
       rw [← this]; exact hopA
      exact key e _ hb (by rw [hl]; rfl) (fun x hx => by rw [hl]; simp only [boxCells, hx]) (fun x v hx => .inl ⟨hl, hx⟩)
     ·have hb : opBox H e (a.eval y) = some (nx, H1) := by
       have : opA P a.eval o H = opBox H e (a.eval y) := by simp only [opA, opTable, hl, do_box]
       rw [← this]; exact hopA
      exact key e _ hb (by rw [hl]; rfl) (fun x hx => by rw [hl]; simp only [boxCells, hx]) (fun x v hx => .inr ⟨y, hl, (heput v y (by rw [hl]; simp [Op.operands])).trans hx⟩)
 ·rename_i hw
  simp only [stepPut, Option.some.injEq, AStep.go.injEq] at hst
  obtain ⟨rfl, rfl⟩ := hst
  refine ⟨m, fun k => if k = i then none else ids k, L.more hok ho hid hE hkA (Ext.refl m) L.fits (fun _ _ => rfl) (recsOf_sub i o) (fun j hj => by simp [hj]) (fun b hb => by simp at hb) ?_⟩
  exact .inl ⟨(hwput _).trans hw, hdput _⟩
 ·cases hst
theorem Lag.both (L : Lag P ops w0 m0 N don a H rs ids listed m act w) (hok : okTmps ops = true) {i : Nat} {o : Oper} (ho : ops[i]? = some o) (hd : okDst N o = true) (hid : i ∉ don) (hS : ∀ j ∈ edgesAt ops i, listed[j]? = some true) {m' : Map} {w' : World} {v : AV} {v' : Value} {ds : List (FuncId × List AV × List AV)} {ds' : List Deferred}
  (he : Ext m m') (F' : Fits w0 m' H' w') (hv : Rel m' v v') (hds : RelD m' ds ds') (hrec : allRec (recOk P ops i ((⟨a.tmps, ds ++ a.defers⟩ : AAct).put o.dst v) H') rs = true) :
  Lag P ops w0 m0 N (i :: don) ((⟨a.tmps, ds ++ a.defers⟩ : AAct).put o.dst v) H' rs ids (listed.setIfInBounds i true) m' (({ act with defers := ds' ++ act.defers } : Act).put o.dst v') w' := by
 have hi : i < ops.size := (Array.getElem?_eq_some_iff.1 ho).1
 have hil : i < listed.size := by rw [L.size]; exact hi
 have not : ∀ {k}, (listed.setIfInBounds i true)[k]? ≠ some true → k ≠ i ∧ listed[k]? ≠ some true := fun h => ⟨fun e => h ((set_listed hil).2 (.inl e)), fun e => h ((set_listed hil).2 (.inr e))⟩
 have hcl : ∀ k, (listed.setIfInBounds i true)[k]? = some true → ∀ j ∈ edgesAt ops k, (listed.setIfInBounds i true)[j]? = some true := fun k hk j hj => by
  rcases (set_listed hil).1 hk with rfl | hk
  ·exact (set_listed hil).2 (.inr (hS j hj))
  ·exact (set_listed hil).2 (.inr (L.closedS k hk j hj))
 exact {
  size := by simp [L.size]
  sub := fun k hk => by
   rcases (set_listed hil).1 hk with rfl | hk
   ·simp
   ·exact List.mem_cons_of_mem _ (L.sub k hk)
  lt := fun k hk => by
   rcases List.mem_cons.1 hk with rfl | hk
   ·exact hi
   ·exact L.lt k hk
  closedS := hcl
  ord := .cons (fun j hj => L.sub j (hS j hj)) hid L.ord
  kind := fun k hk h => by
   obtain ⟨h1, h2⟩ := not h
   rcases List.mem_cons.1 hk with rfl | hk
   ·exact absurd rfl h1
   ·exact L.kind k hk h2
  fits := F'
  ext := L.ext.trans he
  asize := by rw [put_size]; exact L.asize
  slots := fun t => by
   by_cases hdt : o.dst = some t
   ·right
    exact put_slot (a := ⟨a.tmps, ds ++ a.defers⟩) (act := { act with defers := ds' ++ act.defers }) L.asize (fun s hs => by
     simp only [okDst, hs] at hd
     exact Nat.le_of_ble_eq_true hd) hv (fun h => absurd hdt h)
   ·rcases L.slots t with ⟨k, h1, h2, h3⟩ | h
    ·left
     refine ⟨k, List.mem_cons_of_mem _ h1, fun h => ?_, h3⟩
     rcases (set_listed hil).1 h with rfl | h
     ·exact hid h1
     ·exact h2 h
    ·right
     exact put_slot (a := ⟨a.tmps, ds ++ a.defers⟩) (act := { act with defers := ds' ++ act.defers }) L.asize (fun s hs => by
      simp only [okDst, hs] at hd
      exact Nat.le_of_ble_eq_true hd) hv (fun _ => h.mono he.le)
  defers := by rw [put_defersA, put_defersV]; exact hds.append (L.defers.mono he.le)
  pend := fun k hk' hkl o' ho' => by
   obtain ⟨hki, hkl'⟩ := not hkl
   rcases List.mem_cons.1 hk' with rfl | hk'
   ·exact absurd rfl hki
   ·have hap : ∀ t, o.dst = some t → t ∉ readsAt ops k ∧ dstAt ops k ≠ some t := fun t ht => L.apart hok hi hid hk' hkl' (.inr hS) (by rw [dst_of ho]; exact ht)
    have hput : ∀ t, o.dst ≠ some t → ((⟨a.tmps, ds ++ a.defers⟩ : AAct).put o.dst v).tmps.get t = a.tmps.get t := fun t ht => get_put_slot (a := ⟨a.tmps, ds ++ a.defers⟩) ht
    have hdst : ∀ d, o'.dst = some d → ((⟨a.tmps, ds ++ a.defers⟩ : AAct).put o.dst v).tmps.get d = a.tmps.get d := fun d hd => hput d fun e => (hap d e).2 (by rw [dst_of ho']; exact hd)
    -- what the check says
    have hck : ∀ r ∈ rs, r.i = k → r.o = o' → (match isRead r.o.op with
      | true => sameO (valOf (opA P ((⟨a.tmps, ds ++ a.defers⟩ : AAct).put o.dst v).eval r.o H')) (tmpO ((⟨a.tmps, ds ++ a.defers⟩ : AAct).put o.dst v) r.o.dst)
      | false => match H'.get r.id with
       | some (.row n t e) => Nat.beq n r.cells.length && Nat.beq e r.e && sameLO (t.take 0 n) r.cells
       | _ => false) = true := by
     intro r hr h1 h2
     have := allRec_mem rs hrec r hr
     simp only [recOk, Bool.or_eq_true] at this
     rcases this with h | h
     ·exfalso
      refine hkl (ancOf_closed (S := fun k => (listed.setIfInBounds i true)[k]? = some true) hcl ops.size i k ((set_listed hil).2 (.inl rfl)) (h1 ▸ h))
     ·exact h
    refine (L.pend k hk' hkl' o' ho').keep ho' (fun t ht => hput t fun e => (hap t e).1 ht) hdst ?_ ?_ (fun id _ h => he.virt id h) (fun _ h => h) rfl
    ·intro u r hl hold hval hnew hr h1 h2
     have := hck r hr h1 h2
     rw [h2, hl] at this
     simp only at this
     cases hop : opA P ((⟨a.tmps, ds ++ a.defers⟩ : AAct).put o.dst v).eval o' H' with
     | none => rw [hop] at this; simp [valOf, sameO] at this
     | some p =>
      obtain ⟨nx, H2⟩ := p
      obtain ⟨v2, rfl, rfl, _⟩ := read_out hl hop
      rw [hop] at this
      simp only [valOf] at this
      cases hd' : o'.dst with
      | none => rw [hd'] at this; simp [tmpO, sameO] at this
      | some d =>
       rw [hd'] at this
       simp only [tmpO] at this
       rw [hdst d hd', hval d hd'] at this
       simp only [sameO] at this
       rw [AV.same_eq _ _ this]
    ·intro id n t e l r hrow hn hget hids hr h1 h2 h3 h4 h5 hshape
     have := hck r hr h1 h2
     have hres : (match H'.get r.id with
       | some (.row n t e) => Nat.beq n r.cells.length && Nat.beq e r.e && sameLO (t.take 0 n) r.cells
       | _ => false) = true := by
      rcases hshape with ⟨e2, hl⟩ | ⟨e2, y, hl⟩
      ·rw [h2, hl] at this; exact this
      ·rw [h2, hl] at this; exact this
     rw [h3, h4, h5] at hres
     split at hres
     ·rename_i n2 t2 e2 hrow2
      simp only [Bool.and_eq_true] at hres
      obtain ⟨⟨hn2, he2⟩, hs⟩ := hres
      have hn2 : n2 = l.length := Nat.eq_of_beq_eq_true hn2
      have he2 : e2 = e := Nat.eq_of_beq_eq_true he2
      subst he2
      cases htk : t2.take 0 n2 with
      | none => rw [htk] at hs; simp [sameLO] at hs
      | some l2 =>
       rw [htk] at hs
       simp only [sameLO] at hs
       have := AV.sameL_eq _ _ hs
       subst this
       obtain ⟨_, hg⟩ := T.take_some t2 n2 0 l2 htk
       refine ⟨t2, by rw [hrow2, hn, hn2], fun q hq => ?_⟩
       have := hg q (by omega)
       rwa [Nat.zero_add] at this
     ·cases hres
  inj := L.inj
  idlt := fun k b hk => ⟨List.mem_cons_of_mem _ (L.idlt k b hk).1, Nat.lt_of_lt_of_le (L.idlt k b hk).2 he.len⟩ }
theorem Lag.effect (hc : CallOK P w0 call) (L : Lag P ops w0 m0 N don a H rs ids listed m act w) (hok : okTmps ops = true) {i : Nat} {o : Oper} (ho : ops[i]? = some o) (hd : okDst N o = true) (hid : i ∉ don) (hS : ∀ j ∈ edgesAt ops i, listed[j]? = some true) (hst : stepA P call ops o a H = some (.go a' H')) (hrec : allRec (recOk P ops i a' H') rs = true)
  {K : Act → World → Prop} {Q : Exit → Act → World → Prop} (hK : ∀ m' act' w', Lag P ops w0 m0 N (i :: don) a' H' rs ids (listed.setIfInBounds i true) m' act' w' → K act' w') : wpOp P ops Q i K act w := by
 have hi : i < ops.size := (Array.getElem?_eq_some_iff.1 ho).1
 have hsl := L.reads hok hi hS
 rw [reads_of ho] at hsl
 have hop : ∀ x ∈ o.op.operands.toList, ∀ v, a.eval x = some v → Rel m v (act.eval x) := fun x hx v hv => eval_ok (fun t e => hsl t (List.mem_append_right _ (mem_tmps (e ▸ hx)))) v hv
 have hwant : ∀ b, wantedT ops a.tmps.get o.guard = some b → Region.wanted o (yielded ops act.tmps) = b := fun b h => wanted_ok (fun t ht => hsl t (List.mem_append_left _ ht)) h
 unfold wpOp
 simp only [ho]
 unfold stepA at hst
 split at hst
 ·rename_i hw
  rw [hwant _ hw]
  simp only [if_true]
  cases hopA : opA P a.eval o H with
  | none => rw [hopA] at hst; cases hst
  | some p =>
   obtain ⟨nx, H1⟩ := p
   rw [hopA] at hst
   refine .inl (upon_ok hc (opA_ok L.fits o hop hopA) hst ?_ (fun v h' e => by cases e))
   intro a2 h2 e m' w' v v' ds ds' he F' hv e2 hds
   cases e
   subst e2
   exact hK m' _ w' (L.both hok ho hd hid hS he F' hv hds hrec)
 ·rename_i hw
  rw [hwant _ hw]
  simp only [Bool.false_eq_true, if_false]
  simp only [stepPut, Option.some.injEq, AStep.go.injEq] at hst
  obtain ⟨rfl, rfl⟩ := hst
  exact hK m _ w (L.both hok ho hd hid hS (Ext.refl m) L.fits (v := .tup []) (v' := undef) (ds := []) (ds' := []) (.tup .nil) .nil hrec)
 ·cases hst
theorem kindOf_le (P : Program) (o : Op) : kindOf P o ≤ 3 := by
 cases o
 case convert =>
  simp only [kindOf]
  split
  ·omega
  ·omega
  ·split <;> omega
 case slice =>
  simp only [kindOf]
  split <;> omega
 case binOp =>
  simp only [kindOf]
  split
  ·omega
  ·split <;> omega
 case call =>
  simp only [kindOf]
  split
  ·split <;> omega
  ·omega
  ·omega
  ·omega
 all_goals (simp only [kindOf]; try omega)
theorem kindX_le (P : Program) (ops : Array Oper) (i : Nat) (o : Op) : kindX P ops i o ≤ 3 := by
 unfold kindX
 split
 ·omega
 ·exact kindOf_le P o
theorem okPlan_cons {i : Nat} {l : List Nat} (h : okPlan P ops don (i :: l) = true) : i < ops.size ∧ i ∉ don ∧ (∀ j ∈ edgesAt ops i, j ∈ don) ∧ (kindAt P ops i < 3 ∨ ∀ j, j < ops.size → j ∉ don → (∀ k ∈ edgesAt ops j, k ∈ don) → j = i) ∧ okPlan P ops (i :: don) l = true := by
 simp only [okPlan, Bool.and_eq_true, Bool.or_eq_true, Bool.not_eq_true'] at h
 obtain ⟨⟨⟨⟨h1, h2⟩, h3⟩, h4⟩, h5⟩ := h
 refine ⟨Nat.le_of_ble_eq_true h1, fun hm => (by rw [memB_iff.2 hm] at h2; cases h2), subB_iff.1 h3, ?_, h5⟩
 rcases h4 with h4 | h4
 ·exact .inl (Nat.le_of_ble_eq_true h4)
 ·right
  intro j hj hjd hje
  have := allB_iff.1 h4 j (List.mem_range.2 hj)
  simp only [onlyB, Bool.or_eq_true, Bool.not_eq_true'] at this
  rcases this with (h | h) | h
  ·exact absurd (memB_iff.1 h) hjd
  ·rw [subB_iff.2 hje] at h; cases h
  ·exact Nat.eq_of_beq_eq_true h
theorem dGo_cons {i : Nat} {l : List Nat} {R : AExit × AAct × AHeap} (h : dGo P call ops (i :: l) a H rs = some R) : ∃ o a' h', ops[i]? = some o ∧ stepA P call ops o a H = some (.go a' h') ∧
  ((kindX P ops i o.op < 3 ∧ dGo P call ops l a' h' (recsOf P ops a H i o rs) = some R) ∨ (kindX P ops i o.op = 3 ∧ allRec (recOk P ops i a' h') rs = true ∧ dGo P call ops l a' h' rs = some R)) := by
 simp only [dGo] at h
 split at h
 ·cases h
 ·rename_i o ho
  split at h
  ·rename_i a' h' hst
   refine ⟨o, a', h', ho, hst, ?_⟩
   split at h
   ·rename_i hk
    left
    refine ⟨by omega, ?_⟩
    simp only [recsOf, hk]
    exact h
   ·rename_i hk
    right
    split at h
    ·rename_i hc
     exact ⟨hk, hc, h⟩
    ·cases h
   ·rename_i hk0 hk3
    left
    have hle := kindX_le P ops i o.op
    refine ⟨by
     rcases Nat.lt_or_ge (kindX P ops i o.op) 3 with h3 | h3
     ·exact h3
     ·exact absurd (by omega) hk3, ?_⟩
    have e : recsOf P ops a H i o rs = (match wantedT ops a.tmps.get o.guard with
      | some true => ⟨i, o, H.next, boxType o.op, boxCells P a o.op⟩ :: rs
      | _ => rs) := by
     unfold recsOf
     split
     ·rename_i hk; exact absurd hk hk0
     ·rfl
    rw [e]
    split at h
    ·rename_i hw
     simp only [hw]; exact h
    ·rename_i hw
     split
     ·rename_i hw2; exact absurd hw2 hw
     ·exact h
  ·cases h
theorem Lag.walk (hc : CallOK P w0 call) (hok : okTmps ops = true) (hN : ∀ o ∈ ops.toList, okDst N o = true) {R : AExit × AAct × AHeap} {i : Nat} (hi : i < ops.size) {K : Act → World → Prop} {Q : Exit → Act → World → Prop} : ∀ (l don : List Nat) (a : AAct) (H : AHeap) (rs : List Rec) (ids : Nat → Option Nat) (m : Map),
  Lag P ops w0 m0 N don a H rs ids listed m act w → listed[i]? ≠ some true → (∀ j ∈ edgesAt ops i, listed[j]? = some true) → okPlan P ops don l = true → dGo P call ops l a H rs = some R →
  (∀ don' l' a' H' rs' ids' m' act' w', Lag P ops w0 m0 N don' a' H' rs' ids' (listed.setIfInBounds i true) m' act' w' → okPlan P ops don' l' = true → dGo P call ops l' a' H' rs' = some R → K act' w') → wpOp P ops Q i K act w := by
 have ho : ops[i]? = some ops[i] := Array.getElem?_eq_getElem hi
 have mem : ∀ {k : Nat} {o : Oper}, ops[k]? = some o → okDst N o = true := fun h => hN _ (by
  have := Array.getElem?_eq_some_iff.1 h
  obtain ⟨hk, rfl⟩ := this
  simp)
 intro l
 induction l with
 | nil =>
  intro don a H rs ids m L hp hS hplan hgo hK
  have hin : i ∈ don := by
   simp only [okPlan] at hplan
   exact memB_iff.1 (allB_iff.1 hplan i (List.mem_range.2 hi))
  exact L.run hok ho (mem ho) hin hp hS (fun m' act' w' L' => hK don [] a H rs ids m' act' w' L' hplan hgo)
 | cons j l ih =>
  intro don a H rs ids m L hp hS hplan hgo hK
  by_cases hin : i ∈ don
  ·exact L.run hok ho (mem ho) hin hp hS (fun m' act' w' L' => hK don (j :: l) a H rs ids m' act' w' L' hplan hgo)
  ·obtain ⟨h1, h2, h3, h4, h5⟩ := okPlan_cons hplan
   obtain ⟨o, a', h', hoj, hst, hres⟩ := dGo_cons hgo
   rcases hres with ⟨hk, hgo'⟩ | ⟨hk, hrec, hgo'⟩
   ·obtain ⟨m', ids', L'⟩ := L.ahead hok hoj h2 h3 hk hst
    exact ih (j :: don) a' h' _ ids' m' L' hp hS h5 hgo' hK
   ·have hij : i = j := by
     rcases h4 with h4 | h4
     ·rw [kindAt_of hoj] at h4; omega
     ·exact h4 i hi hin (fun k hk => L.sub k (hS k hk))
    subst hij
    exact L.effect hc hok hoj (mem hoj) hin hS hst hrec (fun m' act' w' L' => hK (i :: don) l a' h' rs ids m' act' w' L' h5 hgo')
theorem any_ok (hc : CallOK P w0 call) (hok : okTmps ops = true) (hN : ∀ o ∈ ops.toList, okDst N o = true) {e1 : AExit} {a1 : AAct} {h1 : AHeap} : ∀ (fuel : Nat) (listed : Array Bool) (don l : List Nat) (a : AAct) (H : AHeap) (rs : List Rec) (ids : Nat → Option Nat) (m : Map) (act : Act) (w : World),
  Lag P ops w0 m0 N don a H rs ids listed m act w → okPlan P ops don l = true → dGo P call ops l a H rs = some (e1, a1, h1) → listed.countP (fun b => !b) ≤ fuel → wpAny P .any ops (Post w0 m0 N e1 a1 h1) fuel listed act w := by
 have fin : ∀ (listed : Array Bool) (don l : List Nat) (a : AAct) (H : AHeap) (rs : List Rec) (ids : Nat → Option Nat) (m : Map) (act : Act) (w : World),
   Lag P ops w0 m0 N don a H rs ids listed m act w → okPlan P ops don l = true → dGo P call ops l a H rs = some (e1, a1, h1) → Region.ready .any ops listed = [] → Post w0 m0 N e1 a1 h1 .normal act w := by
  intro listed don l a H rs ids m act w L hplan hgo hr
  have notready : ∀ i, i < ops.size → listed[i]? ≠ some true → (∀ j ∈ edgesAt ops i, listed[j]? = some true) → False := by
   intro i hi hp hS
   have hil : i < listed.size := by rw [L.size]; exact hi
   have : listed[i]? = some false := by
    rw [Array.getElem?_eq_getElem hil] at hp ⊢
    cases hb : listed[i] with
    | true => rw [hb] at hp; exact absurd rfl hp
    | false => rfl
   have := (ready_iff (ops := ops) L.size).2 ⟨hi, this, hS⟩
   rw [hr] at this
   simp at this
  have alld : ∀ i ∈ don, listed[i]? = some true := by
   intro i hi
   apply Classical.byContradiction
   intro hn
   obtain ⟨k, h1, h2, h3⟩ := L.ord.first (S := fun k => listed[k]? = some true) ⟨i, hi, hn⟩
   exact notready k (L.lt k h1) h2 h3
  cases l with
  | cons j l =>
   obtain ⟨h1, h2, h3, _, _⟩ := okPlan_cons hplan
   exact (notready j h1 (fun h => h2 (L.sub j h)) (fun k hk => alld k (h3 k hk))).elim
  | nil =>
   simp only [dGo, Option.some.injEq, Prod.mk.injEq] at hgo
   obtain ⟨rfl, rfl, rfl⟩ := hgo
   refine ⟨m, L.ext, ⟨L.asize, fun t => ?_, L.defers⟩, L.fits, .normal⟩
   rcases L.slots t with ⟨k, h1, h2, _⟩ | h
   ·exact absurd (alld k h1) h2
   ·exact h
 intro fuel
 induction fuel with
 | zero =>
  intro listed don l a H rs ids m act w L hplan hgo hcnt
  have hr : Region.ready .any ops listed = [] := by
   apply List.eq_nil_iff_forall_not_mem.2
   intro i hi
   obtain ⟨_, h2, _⟩ := (ready_iff L.size).1 hi
   have : 0 < listed.countP (fun b => !b) := by
    rw [Array.countP_pos_iff]
    exact ⟨false, Array.mem_of_getElem? h2, rfl⟩
   omega
  exact ⟨hr, fin listed don l a H rs ids m act w L hplan hgo hr⟩
 | succ fuel ih =>
  intro listed don l a H rs ids m act w L hplan hgo hcnt
  refine ⟨fun hr => fin listed don l a H rs ids m act w L hplan hgo hr, fun i hi => ?_⟩
  obtain ⟨h1, h2, h3⟩ := (ready_iff L.size).1 hi
  refine Lag.walk hc hok hN h1 l don a H rs ids m L (by rw [h2]; simp) h3 hplan hgo ?_
  intro don' l' a' H' rs' ids' m' act' w' L' hplan' hgo'
  refine ih _ don' l' a' H' rs' ids' m' act' w' L' hplan' hgo' ?_
  have hil : i < listed.size := by rw [L.size]; exact h1
  have hli : listed[i] = false := by
   have := Array.getElem?_eq_getElem hil
   rw [h2] at this
   simpa using this.symm
  have hset : listed.setIfInBounds i true = listed.set i true hil := by simp [Array.setIfInBounds, hil]
  rw [hset, Array.countP_set]
  simp only [hli]
  have : 0 < listed.countP (fun b => !b) := by
   rw [Array.countP_pos_iff]
   exact ⟨false, Array.mem_of_getElem? h2, rfl⟩
  simp
  omega
theorem draw_ok (hm : P.follows .mixedOrders = true) (hc : CallOK P w0 call) {N : Nat} (hN : ∀ o ∈ ops.toList, okDst N o = true) {e1 : AExit} {a1 : AAct} {h1 : AHeap} {id : Nat} (ha : RelAct m N a act) (F : Fits w0 m H w) (h : aDraw P call ops a H = some (e1, a1, h1)) : (Code.region id ops true).wp P (Post w0 m N e1 a1 h1) act w := by
 unfold aDraw at h
 split at h
 ·rename_i p hp
  unfold planOf at hp
  split at hp
  ·rename_i hc'
   simp only [Bool.and_eq_true] at hc'
   simp only [Option.some.injEq] at hp
   subst hp
   refine wp_region_any hm (any_ok hc hc'.1 hN ops.size _ [] _ a H [] (fun _ => none) m act _ ?_ hc'.2 h (by simp [Array.countP_replicate]))
   have no : ∀ i : Nat, (Array.replicate ops.size false)[i]? ≠ some true := by
    intro i hi
    rw [Array.getElem?_replicate] at hi
    split at hi <;> cases hi
   exact {
    size := by simp
    sub := fun i h => (no i h).elim
    lt := fun i h => by simp at h
    closedS := fun i h => (no i h).elim
    ord := .nil
    kind := fun i h => by simp at h
    fits := F.drew
    ext := Ext.refl m
    asize := ha.size
    slots := fun t => .inr (ha.tmps t)
    defers := ha.defers
    pend := fun i h => by simp at h
    inj := fun _ _ _ h => by cases h
    idlt := fun _ _ h => by cases h }
  ·cases hp
 ·cases h
end
end
end Go.Proofs.Ytpnccmlajhhpdaa.Abs
