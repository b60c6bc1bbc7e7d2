/- Maps, functions, calls; all the operations in one theorem. -/
import Derived.Test.YtpnccmlajhhpdaaAbs8
import Derived.MapKept
import Derived.RangeFuncRecord
namespace Go.Proofs.Ytpnccmlajhhpdaa.Abs
noncomputable section
open Go.RowKit

section
variable {P : Program} {m : Map} {w0 : Base} {w : World} {H H' : AHeap} {nx : ANext}

/-! ### maps -/
theorem RelM.length {l : List (AV × AV)} {l' : List MapEntry} (h : RelM m l l') : l.length = l'.length := by
  induction h with
  | nil => rfl
  | cons _ _ _ ih => simp [ih]
theorem check_plain {t : TypeId} {d : TypeDesc} {v : Value} (hu : P.underlying t = some d) (hd : (∃ q, d = .int q) ∨ d = .string ∨ d = .bool) (n : Nat) (w : World) (e : Bool) : (Instr.checkKey e (n + 1) t v).run P w = .ok () w := by
  rcases hd with ⟨q, rfl⟩ | rfl | rfl <;> simp only [Instr.checkKey, Sem.run_bind, run_underlying hu, Result.andThen_ok] <;> rfl
theorem bytes_lawful {s s' : ByteArray} (h : (s == s') = true) : s.data.toList = s'.data.toList := by
  have : s.data == s'.data := h
  have := eq_of_beq this
  rw [this]
theorem bytes_refl (s : ByteArray) : (s == s) = true := by
  show (s.data == s.data) = true
  simp
theorem key_desc {t : TypeId} {k : AV} {k' : Value} (h : keyT P t k = true) (hk : Rel m k k') : ∃ d, P.underlying t = some d ∧ ((∃ q, d = .int q) ∨ d = .string ∨ d = .bool) ∧ (∀ (w : World) (e : Bool), (Instr.checkKey e 10000 t k').run P w = .ok () w) ∧
    ∀ (x : AV) (x' : Value) (b : Bool), Rel m x x' → sameKey k x = some b → Instr.sameNow d k' x' = some b ∧ (b = true → ∀ n, Instr.sameBits n x' k' = true) := by
  unfold keyT at h
  split at h
  · rename_i q hu
    split at h
    · rename_i kk n
      have := rel_int hk; subst this
      refine ⟨_, hu, .inl ⟨q, rfl⟩, fun w e => check_plain hu (.inl ⟨q, rfl⟩) 9999 w e, fun x x' b hx hs => ?_⟩
      unfold sameKey at hs
      simp only at hs
      split at hs
      · split at hs
        · rename_i k2 n2 hkk
          subst hkk
          have := rel_int hx; subst this
          simp only [Option.some.injEq] at hs; subst hs
          refine ⟨by simp [Instr.sameNow], fun hb n => ?_⟩
          have : n = n2 ∨ True := .inr trivial
          simp only [beq_iff_eq] at hb; subst hb
          cases n <;> simp [Instr.sameBits]
        · cases hs
      · cases hs
    · cases h
  · rename_i hu
    split at h
    · rename_i n v
      cases hk with | str s h1 h2 =>
      refine ⟨_, hu, .inr (.inl rfl), fun w e => check_plain hu (.inr (.inl rfl)) 9999 w e, fun x x' b hx hs => ?_⟩
      unfold sameKey at hs
      simp only at hs
      split at hs
      · cases hx with | str s' h3 h4 =>
        simp only [Option.some.injEq] at hs; subst hs
        rw [str_beq h1 h2 h3 h4]
        refine ⟨rfl, fun hb n => ?_⟩
        have hl := bytes_lawful hb
        have : s' == s := by
          show (s'.data == s.data) = true
          rw [beq_iff_eq]
          exact (Array.ext' hl).symm
        cases n <;> exact this
      · cases hs
    · cases h
  · rename_i hu
    split at h
    · have := rel_bool hk; subst this
      refine ⟨_, hu, .inr (.inr rfl), fun w e => check_plain hu (.inr (.inr rfl)) 9999 w e, fun x x' b hx hs => ?_⟩
      unfold sameKey at hs
      simp only at hs
      split at hs
      · have := rel_bool hx; subst this
        simp only [Option.some.injEq] at hs; subst hs
        refine ⟨rfl, fun hb n => ?_⟩
        simp only [beq_iff_eq] at hb; subst hb
        cases n <;> simp [Instr.sameBits]
      · cases hs
    · cases h
  · cases h
theorem findNow_ok {d : TypeDesc} {k : AV} {k' : Value} (hs : ∀ (x : AV) (x' : Value) (b : Bool), Rel m x x' → sameKey k x = some b → Instr.sameNow d k' x' = some b) : ∀ (es : List (AV × AV)) (es' : List MapEntry) (r : Option AV) (i : Nat), RelM m es es' → findM k es = some r →
    ∃ r', Instr.findNow d k' es' i = some r' ∧ ((r = none ∧ r' = none) ∨ ∃ v v' j, r = some v ∧ r' = some (j, v') ∧ Rel m v v')
  | [], _, r, i, he, h => by
    cases he
    simp only [findM, Option.some.injEq] at h; subst h
    exact ⟨none, rfl, .inl ⟨rfl, rfl⟩⟩
  | (x, v) :: es, _, r, i, he, h => by
    cases he with | cons hk hv he =>
    simp only [findM] at h
    split at h
    · rename_i hb
      simp only [Option.some.injEq] at h; subst h
      exact ⟨some (i, _), by simp [Instr.findNow, hs _ _ _ hk hb], .inr ⟨v, _, i, rfl, rfl, hv⟩⟩
    · rename_i hb
      obtain ⟨r', h1, h2⟩ := findNow_ok hs es _ r (i + 1) he h
      exact ⟨r', by simp only [Instr.findNow, hs _ _ _ hk hb]; exact h1, h2⟩
    · cases h
theorem mapGet_ok (F : Fits w0 m H w) {x : AV} {x' : Value} {es : List (AV × AV)} (hx : Rel m x x') (h : mapGet H x = some es) : (x' = .map none ∧ es = []) ∨ ∃ b g es' clock, x = .mp b ∧ x' = .map (some g) ∧ m[b]? = some (some (g, 0, 0)) ∧ H.get b = some (.map es) ∧ w.heap[g]? = some (.map es' clock) ∧ RelM m es es'.toList := by
  unfold mapGet at h
  split at h
  · simp only [Option.some.injEq] at h; subst h
    cases hx
    exact .inl ⟨rfl, rfl⟩
  · rename_i b
    split at h
    · rename_i es' hb
      simp only [Option.some.injEq] at h; subst h
      cases hx with | @mp _ g hm =>
      obtain ⟨_, _, _, es2, clock, hheap, hrel⟩ := F.map b es' _ _ _ hb hm
      exact .inr ⟨b, g, es2, clock, rfl, rfl, hm, hb, hheap, hrel⟩
    · cases h
  · cases h
def lookTail (kt et : TypeId) (y' : Value) (ok : Bool) (es : Array MapEntry) : Sem Value := do
  Instr.checkKey es.isEmpty 10000 kt y'
  let (v, ok') ← match ← Instr.findKey kt y' es.toList with
    | some (_, v) => pure (v, true)
    | none => pure (← zeroValue et, false)
  pure (if ok then .tuple #[v, .bool ok'] else v)
theorem tail_ok {kt et : TypeId} {ok : Bool} {k : AV} {y' : Value} {es : List (AV × AV)} {es' : Array MapEntry} (hkt : keyT P kt k = true) (hyk : Rel m k y') (hrel : RelM m es es'.toList) (h : lookOut P H et ok (findM k es) = some (nx, H')) : PureOK m w H nx H' ((lookTail kt et y' ok es').run P w) := by
  obtain ⟨d, hd, hdk, hck, hsame⟩ := key_desc (m := m) hkt hyk
  unfold lookOut at h
  split at h
  · rename_i v hf
    obtain ⟨r', h1, h2⟩ := findNow_ok (m := m) (d := d) (fun x x' b hx hs => (hsame x x' b hx hs).1) es es'.toList (some v) 0 hrel hf
    rcases h2 with ⟨h2, _⟩ | ⟨v1, v', j, h2, rfl, hv⟩
    · cases h2
    · cases h2
      have hfk : (Instr.findKey kt y' es'.toList).run P w = .ok (some (j, v')) w := by
        simp [Instr.findKey, run_underlying hd, h1]
      cases ok
      · refine val_ok (v' := v') h ?_ hv
        simp only [lookTail, Sem.run_bind, Result.andThen_ok, hck w _, hfk, Sem.run_pure]
        rfl
      · refine val_ok (v' := .tuple #[v', .bool true]) h ?_ (.tup (.cons hv (.cons (.bool true) .nil)))
        simp only [lookTail, Sem.run_bind, Result.andThen_ok, hck w _, hfk, Sem.run_pure]
        rfl
  · rename_i hf
    obtain ⟨r', h1, h2⟩ := findNow_ok (m := m) (d := d) (fun x x' b hx hs => (hsame x x' b hx hs).1) es es'.toList none 0 hrel hf
    rcases h2 with ⟨_, rfl⟩ | ⟨v1, v', j, h2, _, hv⟩
    · split at h
      · rename_i z hz
        obtain ⟨i, zv, hi, hzv, hrz, _, _⟩ := zero_ok m hz
        have hzr : (zeroValue et).run P w = .ok zv w := by simp [zeroValue, typeInfo, hi, hzv]
        have hfk : (Instr.findKey kt y' es'.toList).run P w = .ok none w := by
          simp [Instr.findKey, run_underlying hd, h1]
        cases ok
        · refine val_ok (v' := zv) h ?_ hrz
          simp only [lookTail, Sem.run_bind, Result.andThen_ok, hck w _, hfk, Sem.run_pure, hzr]
          rfl
        · refine val_ok (v' := .tuple #[zv, .bool false]) h ?_ (.tup (.cons hrz (.cons (.bool false) .nil)))
          simp only [lookTail, Sem.run_bind, Result.andThen_ok, hck w _, hfk, Sem.run_pure, hzr]
          rfl
      · cases h
    · cases h2
  · cases h
theorem lookup_ok (F : Fits w0 m H w) {t : TypeId} {ok : Bool} {x y : Option AV} {x' y' : Value} (hx : ∀ v, x = some v → Rel m v x') (hy : ∀ v, y = some v → Rel m v y') (h : opLookup P H t ok x y = some (nx, H')) : PureOK m w H nx H' ((Instr.lookup t x' y' ok).run P w) := by
  unfold opLookup at h
  split at h
  · rename_i a k
    have hxa := hx _ rfl
    have hyk := hy _ rfl
    split at h
    · rename_i kt et hu
      split at h
      · rename_i hkt
        split at h
        · rename_i es hes
          rcases mapGet_ok F hxa hes with ⟨rfl, rfl⟩ | ⟨b, g, es', clock, rfl, rfl, hm, hb, hheap, hrel⟩
          · have := tail_ok (w := w) (es' := #[]) hkt hyk .nil h
            have e : (Instr.lookup t (.map none) y' ok).run P w = (lookTail kt et y' ok #[]).run P w := by
              simp only [Instr.lookup, lookTail, Sem.run_bind, run_underlying hu, Result.andThen_ok, Sem.run_pure]
              rfl
            rw [e]; exact this
          · have := tail_ok (w := w) (es' := es') hkt hyk hrel h
            have e : (Instr.lookup t (.map (some g)) y' ok).run P w = (lookTail kt et y' ok es').run P w := by
              simp only [Instr.lookup, lookTail, Sem.run_bind, run_underlying hu, Result.andThen_ok, run_getObj_map (P := P) hheap, Sem.run_pure]
              rfl
            rw [e]; exact this
        · cases h
      · cases h
    · cases h
  · cases h
theorem run_setObj_map {g clock : Nat} {es : Array MapEntry} (o' : Obj) (h : w.heap[g]? = some (.map es clock)) : (setObj g o').run P w = .ok () (w.putObj g o') := by
  simp [setObj, Sem.run, h, World.putObj]
theorem below_putObj {B g : Nat} {o : Obj} (hg : B ≤ g) {a : World} (h : Below B a w) : Below B a (w.putObj g o) :=
  h.trans ⟨rfl, rfl, rfl, by simp [World.putObj], fun k hk => World.putObj_heap_other (by omega)⟩
theorem mapPut_fits (F : Fits w0 m H w) {b g clock clock' : Nat} {es es2 : List (AV × AV)} {es' es2' : Array MapEntry} (hm : m[b]? = some (some (g, 0, 0))) (hb : H.get b = some (.map es)) (hheap : w.heap[g]? = some (.map es' clock)) (hrel : RelM m es2 es2'.toList) :
    Fits w0 m (H.put b (.map es2)) (w.putObj g (.map es2' clock')) := by
  obtain ⟨_, _, hB, _⟩ := F.map b es g 0 0 hb hm
  exact F.put hb rfl rfl hm (below_putObj hB F.below) (fun k hk _ => World.putObj_heap_other hk) (fun n t e he => by cases he) (fun es3 he => by
    cases he
    exact ⟨rfl, rfl, hB, es2', clock', World.putObj_heap_same (heap_lt hheap), hrel⟩) (fun n t e he => by cases he)
theorem putM_ok {d : TypeDesc} {k v : AV} {k' v' : Value} (hk' : Rel m k k') (hv' : Rel m v v') (hs : ∀ (x : AV) (x' : Value) (b : Bool), Rel m x x' → sameKey k x = some b → Instr.sameNow d k' x' = some b ∧ (b = true → ∀ n, Instr.sameBits n x' k' = true)) : ∀ (es r : List (AV × AV)) (es' : List MapEntry) (i clock : Nat), RelM m es es' → putM k v es = some r →
    (Instr.findNow d k' es' i = some none ∧ RelM m r (es' ++ [{ key := k', val := v', born := clock }])) ∨
    ∃ j u en, Instr.findNow d k' es' i = some (some (i + j, u)) ∧ es'[j]? = some en ∧ (∀ n, Instr.sameBits n en.key k' = true) ∧ RelM m r (es'.modify j fun e => { e with key := k', val := v' })
  | [], r, _, i, clock, he, h => by
    cases he
    simp only [putM, Option.some.injEq] at h; subst h
    exact .inl ⟨rfl, .cons hk' hv' .nil⟩
  | (x, u) :: es, r, _, i, clock, he, h => by
    cases he with | @cons _ _ en _ l' hk hv he =>
    simp only [putM] at h
    split at h
    · rename_i hb
      simp only [Option.some.injEq] at h; subst h
      refine .inr ⟨0, en.val, en, ?_, rfl, (hs _ _ _ hk hb).2 rfl, ?_⟩
      · simp [Instr.findNow, (hs _ _ _ hk hb).1]
      · simpa using RelM.cons hk' hv' he
    · rename_i hb
      split at h
      · rename_i r' hr'
        simp only [Option.some.injEq] at h; subst h
        rcases putM_ok hk' hv' hs es r' l' (i + 1) clock he hr' with ⟨h1, h2⟩ | ⟨j, u', en', h1, h2, h3, h4⟩
        · exact .inl ⟨by simp only [Instr.findNow, (hs _ _ _ hk hb).1]; exact h1, .cons hk hv h2⟩
        · refine .inr ⟨j + 1, u', en', ?_, by simpa using h2, h3, ?_⟩
          · simp only [Instr.findNow, (hs _ _ _ hk hb).1]; rw [h1]; congr 3; omega
          · simpa using RelM.cons hk hv h4
      · cases h
    · cases h
theorem mapUpdate_ok (F : Fits w0 m H w) {t : TypeId} {a x y : Option AV} {a' x' y' : Value} (ha : ∀ v, a = some v → Rel m v a') (hx : ∀ v, x = some v → Rel m v x') (hy : ∀ v, y = some v → Rel m v y') (h : opMapUpdate P H t a x y = some (nx, H')) :
    ∃ w', nx = .skip ∧ Fits w0 m H' w' ∧ (Instr.mapUpdate t a' x' y').run P w = .ok () w' := by
  unfold opMapUpdate at h
  split at h
  · rename_i b k v
    have hra := ha _ rfl
    have hrk := hx _ rfl
    have hrv := hy _ rfl
    split at h
    · rename_i kt et hu
      split at h
      · rename_i hkt
        obtain ⟨d, hd, hdk, hck, hsame⟩ := key_desc (m := m) hkt hrk
        split at h
        · rename_i es hes
          unfold mapPut at h
          split at h
          · rename_i es2 hput
            simp only [Option.some.injEq, Prod.mk.injEq] at h
            obtain ⟨rfl, rfl⟩ := h
            rcases mapGet_ok F hra hes with ⟨e, _⟩ | ⟨b', g, es', clock, eb, rfl, hm, hb, hheap, hrel⟩
            · cases hra; cases e
            · cases eb
              have hgo := run_getObj_map (P := P) hheap
              rcases putM_ok hrk hrv hsame es es2 es'.toList 0 clock hrel hput with ⟨h1, h2⟩ | ⟨j, u, en, h1, h2, h3, h4⟩
              · have hfk : (Instr.findKey kt x' es'.toList).run P w = .ok none w := by simp [Instr.findKey, run_underlying hd, h1]
                refine ⟨w.putObj g (.map (es'.push { key := x', val := y', born := clock }) (clock + 1)), rfl, mapPut_fits F hm hb hheap (by simpa using h2), ?_⟩
                simp only [Instr.mapUpdate, Sem.run_bind, run_underlying hu, Result.andThen_ok, hgo, hck w _, hfk]
                exact run_setObj_map _ hheap
              · have hfk : (Instr.findKey kt x' es'.toList).run P w = .ok (some (j, u)) w := by simp [Instr.findKey, run_underlying hd, h1]
                have hen : es'[j]? = some en := by simpa using h2
                have hks : (Instr.keyThatStays (((es'[j]?).map (·.key)).getD x') x').run P w = .ok x' w := by
                  simp [hen, Instr.keyThatStays, h3 10000]
                refine ⟨w.putObj g (.map (es'.modify j fun e => { e with key := x', val := y' }) clock), rfl, mapPut_fits F hm hb hheap (by simpa using h4), ?_⟩
                simp only [Instr.mapUpdate, Sem.run_bind, run_underlying hu, Result.andThen_ok, hgo, hck w _, hfk, hks]
                exact run_setObj_map _ hheap
          · cases h
        · cases h
      · cases h
    · cases h
  · cases h
theorem delM_ok {d : TypeDesc} {k : AV} {k' : Value} (hs : ∀ (x : AV) (x' : Value) (b : Bool), Rel m x x' → sameKey k x = some b → Instr.sameNow d k' x' = some b) : ∀ (es r : List (AV × AV)) (es' : List MapEntry) (i : Nat), RelM m es es' → delM k es = some r →
    (Instr.findNow d k' es' i = some none ∧ RelM m r es') ∨ ∃ j u, Instr.findNow d k' es' i = some (some (i + j, u)) ∧ RelM m r (es'.eraseIdx j)
  | [], r, _, i, he, h => by
    cases he
    simp only [delM, Option.some.injEq] at h; subst h
    exact .inl ⟨rfl, .nil⟩
  | (x, u) :: es, r, _, i, he, h => by
    cases he with | @cons _ _ en _ l' hk hv he =>
    simp only [delM] at h
    split at h
    · rename_i hb
      simp only [Option.some.injEq] at h; subst h
      refine .inr ⟨0, en.val, ?_, by simpa using he⟩
      simp [Instr.findNow, hs _ _ _ hk hb]
    · rename_i hb
      split at h
      · rename_i r' hr'
        simp only [Option.some.injEq] at h; subst h
        rcases delM_ok hs es r' l' (i + 1) he hr' with ⟨h1, h2⟩ | ⟨j, u', h1, h4⟩
        · exact .inl ⟨by simp only [Instr.findNow, hs _ _ _ hk hb]; exact h1, .cons hk hv h2⟩
        · refine .inr ⟨j + 1, u', ?_, ?_⟩
          · simp only [Instr.findNow, hs _ _ _ hk hb]; rw [h1]; congr 3; omega
          · simpa using RelM.cons hk hv h4
      · cases h
    · cases h
theorem delete_ok (F : Fits w0 m H w) {t : TypeId} {a x : AV} {a' x' : Value} (hra : Rel m a a') (hrk : Rel m x x') (ts : Array TypeId) (ty : TypeId) (h0 : ts[0]? = some t) (h : opDelete P H t a x = some (nx, H')) :
    ValPost w0 m H' nx ((Builtin.delete_ ts ty #[a', x']).run P w) := by
  unfold opDelete at h
  split at h
  · rename_i b kt et hu
    split at h
    · rename_i hkt
      obtain ⟨d, hd, hdk, hck, hsame⟩ := key_desc (m := m) hkt hrk
      split at h
      · rename_i es hes
        split at h
        · rename_i es2 hdel
          simp only [Option.some.injEq, Prod.mk.injEq] at h
          obtain ⟨rfl, rfl⟩ := h
          rcases mapGet_ok F hra hes with ⟨e, _⟩ | ⟨b', g, es', clock, eb, rfl, hm, hb, hheap, hrel⟩
          · cases hra; cases e
          · cases eb
            have hgo := run_getObj_map (P := P) hheap
            rcases delM_ok (fun x x' b hx hs => (hsame x x' b hx hs).1) es es2 es'.toList 0 hrel hdel with ⟨h1, h2⟩ | ⟨j, u, h1, h4⟩
            · have hfk : (Instr.findKey kt x' es'.toList).run P w = .ok none w := by simp [Instr.findKey, run_underlying hd, h1]
              refine ⟨m, w.putObj g (.map es' clock), _, .tuple #[], Ext.refl m, mapPut_fits F hm hb hheap h2, rfl, ?_, .tup .nil⟩
              simp [Builtin.delete_, h0, run_underlying hu, hgo, hck w _, hfk, run_setObj_map (P := P) _ hheap]
            · have hfk : (Instr.findKey kt x' es'.toList).run P w = .ok (some (j, u)) w := by simp [Instr.findKey, run_underlying hd, h1]
              refine ⟨m, w.putObj g (.map (es'.eraseIdxIfInBounds j) clock), _, .tuple #[], Ext.refl m, mapPut_fits F hm hb hheap (by
                have : (es'.eraseIdxIfInBounds j).toList = es'.toList.eraseIdx j := by
                  unfold Array.eraseIdxIfInBounds
                  split
                  · simp
                  · rw [List.eraseIdx_of_length_le (by simp; omega)]
                rw [this]; exact h4), rfl, ?_, .tup .nil⟩
              simp [Builtin.delete_, h0, run_underlying hu, hgo, hck w _, hfk, run_setObj_map (P := P) _ hheap]
        · cases h
      · cases h
    · cases h
  · cases h
theorem makeMap_ok (F : Fits w0 m H w) {t : TypeId} {r : Option Operand} {ρ' : Operand → Value} (h : opMakeMap H r = some (nx, H')) : ValPost w0 m H' nx ((Instr.makeMap t (r.map ρ')).run P w) := by
  unfold opMakeMap at h
  split at h
  · simp only [Option.some.injEq, Prod.mk.injEq] at h
    obtain ⟨rfl, rfl⟩ := h
    have Fa := F.alloc (.map #[] 0)
    refine ⟨_, w.alloc (.map #[] 0), _, .map (some w.heap.size), Ext.append m _, Fa.new (.map []) (g := w.heap.size) (s := 0) (z := 0) (fun b o' s' z' h1 h2 h3 => ?_) (fun n t e he => by cases he) (fun es he => ?_) (fun n t e he => by cases he) (hpin := fun k o' hk _ => by have := heap_lt (F.pin k o' hk).1; omega), rfl, ?_, ?_⟩
    · have := F.mapped_lt h1 h2 h3; omega
    · cases he
      exact ⟨rfl, rfl, F.size, #[], 0, heap_alloc_new w _, .nil⟩
    · simp [Instr.makeMap]
    · exact .mp (map_new F _)
  · cases h
theorem clear_ok (F : Fits w0 m H w) {t : TypeId} {x : AV} {x' : Value} (hx : Rel m x x') (ts : Array TypeId) (ty : TypeId) (h0 : ts[0]? = some t) (h : opClear P H t x = some (nx, H')) :
    ValPost w0 m H' nx ((Builtin.clear_ ts ty #[x']).run P w) := by
  unfold opClear at h
  split at h
  · rename_i e he
    have hu := elemOf_ok he
    split at h
    · cases hx
      exact PureOK.post F (val_ok (v' := .tuple #[]) h (by simp [Builtin.clear_, h0, run_underlying hu]) (.tup .nil))
    · cases hx
      exact PureOK.post F (val_ok (v' := .tuple #[]) h (by simp [Builtin.clear_, h0, run_underlying hu]) (.tup .nil))
    · rename_i b o n sz
      split at h
      · rename_i z hz
        split at h
        · rename_i hsz
          split at h
          · rename_i H1 hput
            simp only [Option.some.injEq, Prod.mk.injEq] at h
            obtain ⟨rfl, rfl⟩ := h
            obtain ⟨i, zv, hi, hzv, hrel, hl, hl'⟩ := zero_ok m hz
            cases hx with | @sl _ _ _ _ cap g s0 z0 hm hcap hzz =>
            obtain ⟨F', hth, hone⟩ := rowPut_ok F hm (hrel.cells.reps n) hput
            refine ⟨m, _, _, .tuple #[], Ext.refl m, F', rfl, ?_, .tup .nil⟩
            have hst := run_storeCells_cells (P := P) g (s0 + o) (List.replicate n zv.cells.toList).flatten 0 w (fun j hj => by simpa using (hth j hj).1) (fun j hj => by simpa using (hth j hj).2) hone
            simp only [Nat.add_zero] at hst
            have hzc : (zeroValue e).run P w = .ok zv w := by simp [zeroValue, typeInfo, hi, hzv]
            cases n with
            | zero =>
              simp [Builtin.clear_, h0, run_underlying hu, World.setCells]
            | succ n =>
              have hcells : (Builtin.zeroCells zv.cells (n + 1)).toList = (List.replicate (n + 1) zv.cells.toList).flatten := by
                by_cases hz0 : zv.cells.size = 0
                · have e0 : zv.cells.toList = [] := List.eq_nil_of_length_eq_zero (by simpa using hz0)
                  rw [e0]
                  have : (Builtin.zeroCells zv.cells (n + 1)).size = 0 := by rw [size_zeroCells, hz0]; simp
                  have e1 : (Builtin.zeroCells zv.cells (n + 1)).toList = [] := List.eq_nil_of_length_eq_zero (by simpa using this)
                  rw [e1]
                  simp
                · have e1 := range_zero zv.cells.toList (n + 1) (by simp; omega)
                  have e2 : zv.cells.toList.toArray = zv.cells := by simp
                  rw [e2] at e1
                  rw [← e1]
                  simp [Builtin.zeroCells]
              simp [Builtin.clear_, h0, run_underlying hu, hzc, hcells, hst]
          · cases h
        · cases h
      · cases h
    · cases h
  · cases h
end

end
end Go.Proofs.Ytpnccmlajhhpdaa.Abs
