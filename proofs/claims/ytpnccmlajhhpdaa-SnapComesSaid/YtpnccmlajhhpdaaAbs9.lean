/- Maps, functions, calls; all the operations in one theorem. -/
import Derived.Test.YtpnccmlajhhpdaaAbs8
import Derived.MapKept
import Derived.RangeFuncRecord
namespace Go.Proofs.Ytpnccmlajhhpdaa.Abs
noncomputable section
open Go.RowKit

section
variable {P : Program} {m : Map} {w0 : Base} {w : World} {H H' : AHeap} {nx : ANext}

/-! ### maps -/
theorem RelM.length {l : List (AV × AV)} {l' : List MapEntry} (h : RelM m l l') : l.length = l'.length := by
  induction h with
  | nil => rfl
  | cons _ _ _ ih => simp [ih]
theorem check_plain {t : TypeId} {d : TypeDesc} {v : Value} (hu : P.underlying t = some d) (hd : (∃ q, d = .int q) ∨ d = .string ∨ d = .bool) (n : Nat) (w : World) (e : Bool) : (Instr.checkKey e (n + 1) t v).run P w = .ok () w := by
  rcases hd with ⟨q, rfl⟩ | rfl | rfl <;> simp only [Instr.checkKey, Sem.run_bind, run_underlying hu, Result.andThen_ok] <;> rfl
theorem bytes_lawful {s s' : ByteArray} (h : (s == s') = true) : s.data.toList = s'.data.toList := by
  have : s.data == s'.data := h
  have := eq_of_beq this
  rw [this]
theorem bytes_refl (s : ByteArray) : (s == s) = true := by
  show (s.data == s.data) = true
  simp
theorem key_desc {t : TypeId} {k : AV} {k' : Value} (h : keyT P t k = true) (hk : Rel m k k') (hna : ∀ l, k ≠ .agg l) : ∃ d, P.underlying t = some d ∧ ((∃ q, d = .int q) ∨ d = .string ∨ d = .bool) ∧ (∀ (w : World) (e : Bool), (Instr.checkKey e 10000 t k').run P w = .ok () w) ∧
    ∀ (x : AV) (x' : Value) (b : Bool), Rel m x x' → sameKey k x = some b → Instr.sameNow d k' x' = some b ∧ (b = true → ∀ n, Instr.sameBits n x' k' = true) := by
  unfold keyT at h
  split at h
  · rename_i q hu
    split at h
    · rename_i kk n
      have := rel_int hk; subst this
      refine ⟨_, hu, .inl ⟨q, rfl⟩, fun w e => check_plain hu (.inl ⟨q, rfl⟩) 9999 w e, fun x x' b hx hs => ?_⟩
      unfold sameKey at hs
      simp only at hs
      split at hs
      · split at hs
        · rename_i k2 n2 hkk
          subst hkk
          have := rel_int hx; subst this
          simp only [Option.some.injEq] at hs; subst hs
          refine ⟨by simp [Instr.sameNow], fun hb n => ?_⟩
          have : n = n2 ∨ True := .inr trivial
          simp only [beq_iff_eq] at hb; subst hb
          cases n <;> simp [Instr.sameBits]
        · cases hs
      · cases hs
    · cases h
  · rename_i hu
    split at h
    · rename_i n v
      cases hk with | str s h1 h2 =>
      refine ⟨_, hu, .inr (.inl rfl), fun w e => check_plain hu (.inr (.inl rfl)) 9999 w e, fun x x' b hx hs => ?_⟩
      unfold sameKey at hs
      simp only at hs
      split at hs
      · cases hx with | str s' h3 h4 =>
        simp only [Option.some.injEq] at hs; subst hs
        rw [str_beq h1 h2 h3 h4]
        refine ⟨rfl, fun hb n => ?_⟩
        have hl := bytes_lawful hb
        have : s' == s := by
          show (s'.data == s.data) = true
          rw [beq_iff_eq]
          exact (Array.ext' hl).symm
        cases n <;> exact this
      · cases hs
    · cases h
  · rename_i hu
    split at h
    · have := rel_bool hk; subst this
      refine ⟨_, hu, .inr (.inr rfl), fun w e => check_plain hu (.inr (.inr rfl)) 9999 w e, fun x x' b hx hs => ?_⟩
      unfold sameKey at hs
      simp only at hs
      split at hs
      · have := rel_bool hx; subst this
        simp only [Option.some.injEq] at hs; subst hs
        refine ⟨rfl, fun hb n => ?_⟩
        simp only [beq_iff_eq] at hb; subst hb
        cases n <;> simp [Instr.sameBits]
      · cases hs
    · cases h
  · split at h
    · exact absurd rfl (hna _)
    · cases h
  · cases h
theorem sameKey_bits {k x : AV} {k' x' : Value} (hk : Rel m k k') (hx : Rel m x x') (h : sameKey k x = some true) (n : Nat) : Instr.sameBits n x' k' = true := by
  unfold sameKey at h
  split at h
  · split at h
    · split at h
      · rename_i hkk
        subst hkk
        simp only [Option.some.injEq, beq_iff_eq] at h
        subst h
        rw [rel_int hk, rel_int hx]
        cases n <;> simp [Instr.sameBits]
      · cases h
    · cases h
  · split at h
    · cases hk with | str s h1 h2 => cases hx with | str s' h3 h4 =>
      simp only [Option.some.injEq] at h
      rw [str_beq h1 h2 h3 h4] at h
      have hl := bytes_lawful h
      have : s' == s := by
        show (s'.data == s.data) = true
        rw [beq_iff_eq]
        exact (Array.ext' hl).symm
      cases n <;> exact this
    · cases h
  · split at h
    · simp only [Option.some.injEq, beq_iff_eq] at h
      subst h
      rw [rel_bool hk, rel_bool hx]
      cases n <;> simp [Instr.sameBits]
    · cases h
  · cases h
theorem keyCells_bits : ∀ (l x : List AV) (l' x' : List Value), RelL m l l' → RelL m x x' → keyCells l x = true → ∀ (n : Nat), ((x'.zip l').all fun (a, b) => Instr.sameBits n a b) = true ∧ x'.length = l'.length
  | [], x, _, x', hl, hx, h, n => by
    cases hl
    cases x with
    | nil => cases hx; simp
    | cons a x => simp [keyCells] at h
  | a :: l, x, _, x', hl, hx, h, n => by
    cases hl with | cons ha hl =>
    cases x with
    | nil => simp [keyCells] at h
    | cons b x =>
      cases hx with | cons hb hx =>
      simp only [keyCells] at h
      split at h
      · rename_i hs
        obtain ⟨h1, h2⟩ := keyCells_bits l x _ _ hl hx h n
        simp [sameKey_bits ha hb hs n, h2]
        simpa using h1
      · cases h
/-- what a key must do -/
structure KeyOK (P : Program) (m : Map) (w : World) (kt : TypeId) (k : AV) (k' : Value) where
  FK : List MapEntry → Nat → Option (Nat × Value) → Prop
  chk : ∀ (e : Bool), (Instr.checkKey e 10000 kt k').run P w = .ok () w
  nil : ∀ i, FK [] i none
  hit : ∀ (en : MapEntry) (es : List MapEntry) (i : Nat) (x : AV), Rel m x en.key → keySame P kt k x = some true → FK (en :: es) i (some (i, en.val))
  miss : ∀ (en : MapEntry) (es : List MapEntry) (i : Nat) (x : AV) (r : Option (Nat × Value)), Rel m x en.key → keySame P kt k x = some false → FK es (i + 1) r → FK (en :: es) i r
  run : ∀ es r, FK es 0 r → (Instr.findKey kt k' es).run P w = .ok r w
  bits : ∀ (x : AV) (x' : Value), Rel m x x' → keySame P kt k x = some true → Instr.sameBits 10000 x' k' = true
theorem key_plain {t : TypeId} {k : AV} {k' : Value} (h : keyT P t k = true) (hk : Rel m k k') (hna : ∀ l, k ≠ .agg l) (w : World) : Nonempty (KeyOK P m w t k k') := by
  have e : ∀ x, keySame P t k x = sameKey k x := fun x => by
    unfold keySame
    split
    · exact absurd rfl (hna _)
    · rfl
  have h2 : ∃ d, P.underlying t = some d ∧ ((∃ q, d = .int q) ∨ d = .string ∨ d = .bool) ∧ (∀ (w : World) (e : Bool), (Instr.checkKey e 10000 t k').run P w = .ok () w) ∧
    ∀ (x : AV) (x' : Value) (b : Bool), Rel m x x' → sameKey k x = some b → Instr.sameNow d k' x' = some b ∧ (b = true → ∀ n, Instr.sameBits n x' k' = true) := key_desc h hk hna
  obtain ⟨d, hd, _, hck, hs⟩ := h2
  refine ⟨{ FK := fun es i r => Instr.findNow d k' es i = some r, chk := hck w, nil := fun i => rfl, hit := fun en es i x hx hb => ?_, miss := fun en es i x r hx hb hr => ?_, run := fun es r hr => ?_, bits := fun x x' hx hb => ?_ }⟩
  · rw [e] at hb
    simp [Instr.findNow, (hs _ _ _ hx hb).1]
  · rw [e] at hb
    simp only [Instr.findNow, (hs _ _ _ hx hb).1]; exact hr
  · simp [Instr.findKey, run_underlying hd, hr]
  · rw [e] at hb
    exact (hs _ _ _ hx hb).2 rfl _
theorem check_field {l : List AV} {l' : List Value} (hl : RelL m l l') (e : Bool) (n : Nat) (w : World) {f : Field} {fs : List Field} (h : keyFs P l (f :: fs) = true) :
    f.name ≠ "_" ∧ (∃ x', (part f.type ⟨l'⟩ f.offset).run P w = .ok x' w ∧ (Instr.checkKey e (n + 1) f.type x').run P w = .ok () w) ∧ keyFs P l fs = true := by
  simp only [keyFs, Bool.and_eq_true, bne_iff_ne, ne_eq] at h
  obtain ⟨⟨⟨h1, h2⟩, h3⟩, h4⟩ := h
  obtain ⟨x, hx⟩ := Option.isSome_iff_exists.1 h3
  obtain ⟨x', hp, _⟩ := part_ok hl hx w
  refine ⟨h1, ⟨x', hp, ?_⟩, h4⟩
  unfold plainKT at h2
  split at h2
  · rename_i hu; exact check_plain hu (.inl ⟨_, rfl⟩) n w e
  · rename_i hu; exact check_plain hu (.inr (.inl rfl)) n w e
  · rename_i hu; exact check_plain hu (.inr (.inr rfl)) n w e
  · cases h2
theorem key_struct {t : TypeId} {l : List AV} {k' : Value} {fs : Array Field} (hu : P.underlying t = some (.struct fs)) (hf : keyFs P l fs.toList = true) (hk : Rel m (.agg l) k') (w : World) : Nonempty (KeyOK P m w t (.agg l) k') := by
  have heq : ∀ (x : AV) (x' : Value) (b : Bool), Rel m x x' → keySame P t (.agg l) x = some b → (Op.equal t k' x').run P w = .ok b w ∧ (b = true → Instr.sameBits 10000 x' k' = true) := by
    intro x x' b hx hs
    unfold keySame at hs
    simp only at hs
    split at hs
    · rename_i q
      split at hs
      · rename_i he
        split at hs
        · rename_i hc
          simp only [Option.some.injEq] at hs
          subst hs
          refine ⟨eqA_ok 64 t _ _ _ _ _ he hk hx Op.maxDepth w (by decide), fun _ => ?_⟩
          cases hk with | agg hk => cases hx with | agg hx =>
          obtain ⟨h1, h2⟩ := keyCells_bits _ _ _ _ hk hx hc 9999
          simp only [Instr.sameBits, Bool.and_eq_true, beq_iff_eq]
          exact ⟨by simpa using h2, by simpa using h1⟩
        · cases hs
      · rename_i r he
        refine ⟨eqA_ok 64 t _ _ _ _ _ hs hk hx Op.maxDepth w (by decide), fun hb => ?_⟩
        subst hb
        exact absurd hs he
    · cases hs
  cases hk with | @agg _ l' hl =>
  refine ⟨{ FK := fun es i r => (Instr.findAsking t (.agg ⟨l'⟩) es i).run P w = .ok r w, chk := fun e => ?_, nil := fun i => by simp [Instr.findAsking], hit := fun en es i x hx hb => ?_, miss := fun en es i x r hx hb hr => ?_, run := fun es r hr => ?_, bits := fun x x' hx hb => (heq x x' true hx hb).2 rfl }⟩
  · rw [show (10000 : Nat) = 9998 + 1 + 1 from rfl, Instr.checkKey]
    simp only [Sem.run_bind, run_underlying hu, Result.andThen_ok]
    rw [← Array.forIn_toList]
    clear hu heq
    generalize fs.toList = L at hf
    induction L with
    | nil => simp
    | cons f L ih =>
      obtain ⟨hn, ⟨x', p1, p2⟩, h4⟩ := check_field hl e 9998 w hf
      simp only [List.forIn_cons, Sem.run_bind, hn, ne_eq, not_false_eq_true, if_true, Result.andThen_ok, p1, p2, Sem.run_pure]
      exact ih h4
  · simp [Instr.findAsking, (heq x _ _ hx hb).1]
  · simp [Instr.findAsking, (heq x _ _ hx hb).1]
    exact hr
  · cases es with
    | nil =>
      simp [Instr.findAsking] at hr
      subst hr
      simp [Instr.findKey, run_underlying hu, Instr.findNow]
    | cons en es =>
      have : Instr.findNow (.struct fs) (.agg ⟨l'⟩) (en :: es) 0 = none := by simp [Instr.findNow, Instr.sameNow]
      simp only [Instr.findKey, Sem.run_bind, run_underlying hu, Result.andThen_ok, this]
      exact hr
theorem key_ok {t : TypeId} {k : AV} {k' : Value} (h : keyT P t k = true) (hk : Rel m k k') (w : World) : Nonempty (KeyOK P m w t k k') := by
  by_cases hna : ∀ l, k ≠ .agg l
  · exact key_plain h hk hna w
  · have : ∃ l, k = .agg l := by
      apply Classical.byContradiction
      intro hc
      exact hna fun l e => hc ⟨l, e⟩
    obtain ⟨l, rfl⟩ := this
    unfold keyT at h
    split at h
    · cases h
    · cases h
    · cases h
    · rename_i fs hu
      exact key_struct hu h hk w
    · cases h
theorem findM_ok {kt : TypeId} {k : AV} {k' : Value} (K : KeyOK P m w kt k k') : ∀ (es : List (AV × AV)) (es' : List MapEntry) (r : Option AV) (i : Nat), RelM m es es' → findM P kt k es = some r →
    ∃ r', K.FK es' i r' ∧ ((r = none ∧ r' = none) ∨ ∃ v v' j, r = some v ∧ r' = some (j, v') ∧ Rel m v v')
  | [], _, r, i, he, h => by
    cases he
    simp only [findM, Option.some.injEq] at h; subst h
    exact ⟨none, K.nil i, .inl ⟨rfl, rfl⟩⟩
  | (x, v) :: es, _, r, i, he, h => by
    cases he with | cons hk hv he =>
    simp only [findM] at h
    split at h
    · rename_i hb
      simp only [Option.some.injEq] at h; subst h
      exact ⟨some (i, _), K.hit _ _ i x hk hb, .inr ⟨v, _, i, rfl, rfl, hv⟩⟩
    · rename_i hb
      obtain ⟨r', h1, h2⟩ := findM_ok K es _ r (i + 1) he h
      exact ⟨r', K.miss _ _ i x r' hk hb h1, h2⟩
    · cases h
theorem mapGet_ok (F : Fits w0 m H w) {x : AV} {x' : Value} {es : List (AV × AV)} (hx : Rel m x x') (h : mapGet H x = some es) : (x' = .map none ∧ es = []) ∨ ∃ b g es' clock, x = .mp b ∧ x' = .map (some g) ∧ m[b]? = some (some (g, 0, 0)) ∧ H.get b = some (.map es) ∧ w.heap[g]? = some (.map es' clock) ∧ RelM m es es'.toList := by
  unfold mapGet at h
  split at h
  · simp only [Option.some.injEq] at h; subst h
    cases hx
    exact .inl ⟨rfl, rfl⟩
  · rename_i b
    split at h
    · rename_i es' hb
      simp only [Option.some.injEq] at h; subst h
      cases hx with | @mp _ g hm =>
      obtain ⟨_, _, _, es2, clock, hheap, hrel⟩ := F.map b es' _ _ _ hb hm
      exact .inr ⟨b, g, es2, clock, rfl, rfl, hm, hb, hheap, hrel⟩
    · cases h
  · cases h
def lookTail (kt et : TypeId) (y' : Value) (ok : Bool) (es : Array MapEntry) : Sem Value := do
  Instr.checkKey es.isEmpty 10000 kt y'
  let (v, ok') ← match ← Instr.findKey kt y' es.toList with
    | some (_, v) => pure (v, true)
    | none => pure (← zeroValue et, false)
  pure (if ok then .tuple #[v, .bool ok'] else v)
theorem tail_ok {kt et : TypeId} {ok : Bool} {k : AV} {y' : Value} {es : List (AV × AV)} {es' : Array MapEntry} (hkt : keyT P kt k = true) (hyk : Rel m k y') (hrel : RelM m es es'.toList) (h : lookOut P H et ok (findM P kt k es) = some (nx, H')) : PureOK m w H nx H' ((lookTail kt et y' ok es').run P w) := by
  obtain ⟨K⟩ := key_ok (m := m) hkt hyk w
  have hck := K.chk
  unfold lookOut at h
  split at h
  · rename_i v hf
    obtain ⟨r', h1, h2⟩ := findM_ok K es es'.toList (some v) 0 hrel hf
    rcases h2 with ⟨h2, _⟩ | ⟨v1, v', j, h2, rfl, hv⟩
    · cases h2
    · cases h2
      have hfk : (Instr.findKey kt y' es'.toList).run P w = .ok (some (j, v')) w := K.run _ _ h1
      cases ok
      · refine val_ok (v' := v') h ?_ hv
        simp only [lookTail, Sem.run_bind, Result.andThen_ok, hck _, hfk, Sem.run_pure]
        rfl
      · refine val_ok (v' := .tuple #[v', .bool true]) h ?_ (.tup (.cons hv (.cons (.bool true) .nil)))
        simp only [lookTail, Sem.run_bind, Result.andThen_ok, hck _, hfk, Sem.run_pure]
        rfl
  · rename_i hf
    obtain ⟨r', h1, h2⟩ := findM_ok K es es'.toList none 0 hrel hf
    rcases h2 with ⟨_, rfl⟩ | ⟨v1, v', j, h2, _, hv⟩
    · split at h
      · rename_i z hz
        obtain ⟨i, zv, hi, hzv, hrz, _, _⟩ := zero_ok m hz
        have hzr : (zeroValue et).run P w = .ok zv w := by simp [zeroValue, typeInfo, hi, hzv]
        have hfk : (Instr.findKey kt y' es'.toList).run P w = .ok none w := K.run _ _ h1
        cases ok
        · refine val_ok (v' := zv) h ?_ hrz
          simp only [lookTail, Sem.run_bind, Result.andThen_ok, hck _, hfk, Sem.run_pure, hzr]
          rfl
        · refine val_ok (v' := .tuple #[zv, .bool false]) h ?_ (.tup (.cons hrz (.cons (.bool false) .nil)))
          simp only [lookTail, Sem.run_bind, Result.andThen_ok, hck _, hfk, Sem.run_pure, hzr]
          rfl
      · cases h
    · cases h2
  · cases h
theorem lookup_ok (F : Fits w0 m H w) {t : TypeId} {ok : Bool} {x y : Option AV} {x' y' : Value} (hx : ∀ v, x = some v → Rel m v x') (hy : ∀ v, y = some v → Rel m v y') (h : opLookup P H t ok x y = some (nx, H')) : PureOK m w H nx H' ((Instr.lookup t x' y' ok).run P w) := by
  unfold opLookup at h
  split at h
  · rename_i a k
    have hxa := hx _ rfl
    have hyk := hy _ rfl
    split at h
    · rename_i kt et hu
      split at h
      · rename_i hkt
        split at h
        · rename_i es hes
          rcases mapGet_ok F hxa hes with ⟨rfl, rfl⟩ | ⟨b, g, es', clock, rfl, rfl, hm, hb, hheap, hrel⟩
          · have := tail_ok (w := w) (es' := #[]) hkt hyk .nil h
            have e : (Instr.lookup t (.map none) y' ok).run P w = (lookTail kt et y' ok #[]).run P w := by
              simp only [Instr.lookup, lookTail, Sem.run_bind, run_underlying hu, Result.andThen_ok, Sem.run_pure]
              rfl
            rw [e]; exact this
          · have := tail_ok (w := w) (es' := es') hkt hyk hrel h
            have e : (Instr.lookup t (.map (some g)) y' ok).run P w = (lookTail kt et y' ok es').run P w := by
              simp only [Instr.lookup, lookTail, Sem.run_bind, run_underlying hu, Result.andThen_ok, run_getObj_map (P := P) hheap, Sem.run_pure]
              rfl
            rw [e]; exact this
        · cases h
      · cases h
    · cases h
  · cases h
theorem run_setObj_map {g clock : Nat} {es : Array MapEntry} (o' : Obj) (h : w.heap[g]? = some (.map es clock)) : (setObj g o').run P w = .ok () (w.putObj g o') := by
  simp [setObj, Sem.run, h, World.putObj]
theorem below_putObj {B g : Nat} {o : Obj} (hg : B ≤ g) {a : World} (h : Below B a w) : Below B a (w.putObj g o) :=
  h.trans ⟨rfl, rfl, rfl, by simp [World.putObj], fun k hk => World.putObj_heap_other (by omega)⟩
theorem mapPut_fits (F : Fits w0 m H w) {b g clock clock' : Nat} {es es2 : List (AV × AV)} {es' es2' : Array MapEntry} (hm : m[b]? = some (some (g, 0, 0))) (hb : H.get b = some (.map es)) (hheap : w.heap[g]? = some (.map es' clock)) (hrel : RelM m es2 es2'.toList) :
    Fits w0 m (H.put b (.map es2)) (w.putObj g (.map es2' clock')) := by
  obtain ⟨_, _, hB, _⟩ := F.map b es g 0 0 hb hm
  exact F.put hb rfl rfl hm (below_putObj hB F.below) (fun k hk _ => World.putObj_heap_other hk) (fun n t e he => by cases he) (fun es3 he => by
    cases he
    exact ⟨rfl, rfl, hB, es2', clock', World.putObj_heap_same (heap_lt hheap), hrel⟩) (fun n t e he => by cases he)
theorem putM_ok {kt : TypeId} {k v : AV} {k' v' : Value} (K : KeyOK P m w kt k k') (hk' : Rel m k k') (hv' : Rel m v v') : ∀ (es r : List (AV × AV)) (es' : List MapEntry) (i clock : Nat), RelM m es es' → putM P kt k v es = some r →
    (K.FK es' i none ∧ RelM m r (es' ++ [{ key := k', val := v', born := clock }])) ∨
    ∃ j u en, K.FK es' i (some (i + j, u)) ∧ es'[j]? = some en ∧ Instr.sameBits 10000 en.key k' = true ∧ RelM m r (es'.modify j fun e => { e with key := k', val := v' })
  | [], r, _, i, clock, he, h => by
    cases he
    simp only [putM, Option.some.injEq] at h; subst h
    exact .inl ⟨K.nil i, .cons hk' hv' .nil⟩
  | (x, u) :: es, r, _, i, clock, he, h => by
    cases he with | @cons _ _ en _ l' hk hv he =>
    simp only [putM] at h
    split at h
    · rename_i hb
      simp only [Option.some.injEq] at h; subst h
      refine .inr ⟨0, en.val, en, ?_, rfl, K.bits _ _ hk hb, ?_⟩
      · exact K.hit _ _ i x hk hb
      · simpa using RelM.cons hk' hv' he
    · rename_i hb
      split at h
      · rename_i r' hr'
        simp only [Option.some.injEq] at h; subst h
        rcases putM_ok K hk' hv' es r' l' (i + 1) clock he hr' with ⟨h1, h2⟩ | ⟨j, u', en', h1, h2, h3, h4⟩
        · exact .inl ⟨K.miss _ _ i x _ hk hb h1, .cons hk hv h2⟩
        · refine .inr ⟨j + 1, u', en', ?_, by simpa using h2, h3, ?_⟩
          · have := K.miss _ _ i x _ hk hb h1
            rwa [show i + 1 + j = i + (j + 1) by omega] at this
          · simpa using RelM.cons hk hv h4
      · cases h
    · cases h
theorem mapUpdate_ok (F : Fits w0 m H w) {t : TypeId} {a x y : Option AV} {a' x' y' : Value} (ha : ∀ v, a = some v → Rel m v a') (hx : ∀ v, x = some v → Rel m v x') (hy : ∀ v, y = some v → Rel m v y') (h : opMapUpdate P H t a x y = some (nx, H')) :
    ∃ w', nx = .skip ∧ Fits w0 m H' w' ∧ (Instr.mapUpdate t a' x' y').run P w = .ok () w' := by
  unfold opMapUpdate at h
  split at h
  · rename_i b k v
    have hra := ha _ rfl
    have hrk := hx _ rfl
    have hrv := hy _ rfl
    split at h
    · rename_i kt et hu
      split at h
      · rename_i hkt
        obtain ⟨K⟩ := key_ok (m := m) hkt hrk w
        have hck := K.chk
        split at h
        · rename_i es hes
          unfold mapPut at h
          split at h
          · rename_i es2 hput
            simp only [Option.some.injEq, Prod.mk.injEq] at h
            obtain ⟨rfl, rfl⟩ := h
            rcases mapGet_ok F hra hes with ⟨e, _⟩ | ⟨b', g, es', clock, eb, rfl, hm, hb, hheap, hrel⟩
            · cases hra; cases e
            · cases eb
              have hgo := run_getObj_map (P := P) hheap
              rcases putM_ok K hrk hrv es es2 es'.toList 0 clock hrel hput with ⟨h1, h2⟩ | ⟨j, u, en, h1, h2, h3, h4⟩
              · have hfk : (Instr.findKey kt x' es'.toList).run P w = .ok none w := K.run _ _ h1
                refine ⟨w.putObj g (.map (es'.push { key := x', val := y', born := clock }) (clock + 1)), rfl, mapPut_fits F hm hb hheap (by simpa using h2), ?_⟩
                simp only [Instr.mapUpdate, Sem.run_bind, run_underlying hu, Result.andThen_ok, hgo, hck _, hfk]
                exact run_setObj_map _ hheap
              · have hfk : (Instr.findKey kt x' es'.toList).run P w = .ok (some (j, u)) w := by
                  have := K.run _ _ h1
                  rwa [Nat.zero_add] at this
                have hen : es'[j]? = some en := by simpa using h2
                have hks : (Instr.keyThatStays (((es'[j]?).map (·.key)).getD x') x').run P w = .ok x' w := by
                  simp [hen, Instr.keyThatStays, h3]
                refine ⟨w.putObj g (.map (es'.modify j fun e => { e with key := x', val := y' }) clock), rfl, mapPut_fits F hm hb hheap (by simpa using h4), ?_⟩
                simp only [Instr.mapUpdate, Sem.run_bind, run_underlying hu, Result.andThen_ok, hgo, hck _, hfk, hks]
                exact run_setObj_map _ hheap
          · cases h
        · cases h
      · cases h
    · cases h
  · cases h
theorem delM_ok {kt : TypeId} {k : AV} {k' : Value} (K : KeyOK P m w kt k k') : ∀ (es r : List (AV × AV)) (es' : List MapEntry) (i : Nat), RelM m es es' → delM P kt k es = some r →
    (K.FK es' i none ∧ RelM m r es') ∨ ∃ j u, K.FK es' i (some (i + j, u)) ∧ RelM m r (es'.eraseIdx j)
  | [], r, _, i, he, h => by
    cases he
    simp only [delM, Option.some.injEq] at h; subst h
    exact .inl ⟨K.nil i, .nil⟩
  | (x, u) :: es, r, _, i, he, h => by
    cases he with | @cons _ _ en _ l' hk hv he =>
    simp only [delM] at h
    split at h
    · rename_i hb
      simp only [Option.some.injEq] at h; subst h
      exact .inr ⟨0, en.val, K.hit _ _ i x hk hb, by simpa using he⟩
    · rename_i hb
      split at h
      · rename_i r' hr'
        simp only [Option.some.injEq] at h; subst h
        rcases delM_ok K es r' l' (i + 1) he hr' with ⟨h1, h2⟩ | ⟨j, u', h1, h4⟩
        · exact .inl ⟨K.miss _ _ i x _ hk hb h1, .cons hk hv h2⟩
        · refine .inr ⟨j + 1, u', ?_, ?_⟩
          · have := K.miss _ _ i x _ hk hb h1
            rwa [show i + 1 + j = i + (j + 1) by omega] at this
          · simpa using RelM.cons hk hv h4
      · cases h
    · cases h
theorem delete_ok (F : Fits w0 m H w) {t : TypeId} {a x : AV} {a' x' : Value} (hra : Rel m a a') (hrk : Rel m x x') (ts : Array TypeId) (ty : TypeId) (h0 : ts[0]? = some t) (h : opDelete P H t a x = some (nx, H')) :
    ValPost w0 m H' nx ((Builtin.delete_ ts ty #[a', x']).run P w) := by
  unfold opDelete at h
  split at h
  · rename_i b kt et hu
    split at h
    · rename_i hkt
      obtain ⟨K⟩ := key_ok (m := m) hkt hrk w
      have hck := K.chk
      split at h
      · rename_i es hes
        split at h
        · rename_i es2 hdel
          simp only [Option.some.injEq, Prod.mk.injEq] at h
          obtain ⟨rfl, rfl⟩ := h
          rcases mapGet_ok F hra hes with ⟨e, _⟩ | ⟨b', g, es', clock, eb, rfl, hm, hb, hheap, hrel⟩
          · cases hra; cases e
          · cases eb
            have hgo := run_getObj_map (P := P) hheap
            rcases delM_ok K es es2 es'.toList 0 hrel hdel with ⟨h1, h2⟩ | ⟨j, u, h1, h4⟩
            · have hfk : (Instr.findKey kt x' es'.toList).run P w = .ok none w := K.run _ _ h1
              refine ⟨m, w.putObj g (.map es' clock), _, .tuple #[], Ext.refl m, mapPut_fits F hm hb hheap h2, rfl, ?_, .tup .nil⟩
              simp [Builtin.delete_, h0, run_underlying hu, hgo, hck _, hfk, run_setObj_map (P := P) _ hheap]
            · have hfk : (Instr.findKey kt x' es'.toList).run P w = .ok (some (j, u)) w := by
                  have := K.run _ _ h1
                  rwa [Nat.zero_add] at this
              refine ⟨m, w.putObj g (.map (es'.eraseIdxIfInBounds j) clock), _, .tuple #[], Ext.refl m, mapPut_fits F hm hb hheap (by
                have : (es'.eraseIdxIfInBounds j).toList = es'.toList.eraseIdx j := by
                  unfold Array.eraseIdxIfInBounds
                  split
                  · simp
                  · rw [List.eraseIdx_of_length_le (by simp; omega)]
                rw [this]; exact h4), rfl, ?_, .tup .nil⟩
              simp [Builtin.delete_, h0, run_underlying hu, hgo, hck _, hfk, run_setObj_map (P := P) _ hheap]
        · cases h
      · cases h
    · cases h
  · cases h
theorem makeMap_ok (F : Fits w0 m H w) {t : TypeId} {r : Option Operand} {ρ' : Operand → Value} (h : opMakeMap H r = some (nx, H')) : ValPost w0 m H' nx ((Instr.makeMap t (r.map ρ')).run P w) := by
  unfold opMakeMap at h
  split at h
  · simp only [Option.some.injEq, Prod.mk.injEq] at h
    obtain ⟨rfl, rfl⟩ := h
    have Fa := F.alloc (.map #[] 0)
    refine ⟨_, w.alloc (.map #[] 0), _, .map (some w.heap.size), Ext.append m _, Fa.new (.map []) (g := w.heap.size) (s := 0) (z := 0) (fun b o' s' z' h1 h2 h3 => ?_) (fun n t e he => by cases he) (fun es he => ?_) (fun n t e he => by cases he) (hpin := fun k o' hk _ => by have := heap_lt (F.pin k o' hk).1; omega), rfl, ?_, ?_⟩
    · have := F.mapped_lt h1 h2 h3; omega
    · cases he
      exact ⟨rfl, rfl, F.size, #[], 0, heap_alloc_new w _, .nil⟩
    · simp [Instr.makeMap]
    · exact .mp (map_new F _)
  · cases h
theorem clear_ok (F : Fits w0 m H w) {t : TypeId} {x : AV} {x' : Value} (hx : Rel m x x') (ts : Array TypeId) (ty : TypeId) (h0 : ts[0]? = some t) (h : opClear P H t x = some (nx, H')) :
    ValPost w0 m H' nx ((Builtin.clear_ ts ty #[x']).run P w) := by
  unfold opClear at h
  split at h
  · rename_i e he
    have hu := elemOf_ok he
    split at h
    · cases hx
      exact PureOK.post F (val_ok (v' := .tuple #[]) h (by simp [Builtin.clear_, h0, run_underlying hu]) (.tup .nil))
    · cases hx
      exact PureOK.post F (val_ok (v' := .tuple #[]) h (by simp [Builtin.clear_, h0, run_underlying hu]) (.tup .nil))
    · rename_i b o n sz
      split at h
      · rename_i z hz
        split at h
        · rename_i hsz
          split at h
          · rename_i H1 hput
            simp only [Option.some.injEq, Prod.mk.injEq] at h
            obtain ⟨rfl, rfl⟩ := h
            obtain ⟨i, zv, hi, hzv, hrel, hl, hl'⟩ := zero_ok m hz
            cases hx with | @sl _ _ _ _ cap g s0 z0 hm hcap hzz =>
            obtain ⟨F', hth, hone⟩ := rowPut_ok F hm (hrel.cells.reps n) hput
            refine ⟨m, _, _, .tuple #[], Ext.refl m, F', rfl, ?_, .tup .nil⟩
            have hst := run_storeCells_cells (P := P) g (s0 + o) (List.replicate n zv.cells.toList).flatten 0 w (fun j hj => by simpa using (hth j hj).1) (fun j hj => by simpa using (hth j hj).2) hone
            simp only [Nat.add_zero] at hst
            have hzc : (zeroValue e).run P w = .ok zv w := by simp [zeroValue, typeInfo, hi, hzv]
            cases n with
            | zero =>
              simp [Builtin.clear_, h0, run_underlying hu, World.setCells]
            | succ n =>
              have hcells : (Builtin.zeroCells zv.cells (n + 1)).toList = (List.replicate (n + 1) zv.cells.toList).flatten := by
                by_cases hz0 : zv.cells.size = 0
                · have e0 : zv.cells.toList = [] := List.eq_nil_of_length_eq_zero (by simpa using hz0)
                  rw [e0]
                  have : (Builtin.zeroCells zv.cells (n + 1)).size = 0 := by rw [size_zeroCells, hz0]; simp
                  have e1 : (Builtin.zeroCells zv.cells (n + 1)).toList = [] := List.eq_nil_of_length_eq_zero (by simpa using this)
                  rw [e1]
                  simp
                · have e1 := range_zero zv.cells.toList (n + 1) (by simp; omega)
                  have e2 : zv.cells.toList.toArray = zv.cells := by simp
                  rw [e2] at e1
                  rw [← e1]
                  simp [Builtin.zeroCells]
              simp [Builtin.clear_, h0, run_underlying hu, hzc, hcells, hst]
          · cases h
        · cases h
      · cases h
    · cases h
  · cases h
end

end
end Go.Proofs.Ytpnccmlajhhpdaa.Abs
