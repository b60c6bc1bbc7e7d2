/- The operations that read no memory come to what the small machine says. -/
import Derived.Test.YtpnccmlajhhpdaaAbs3
import Derived.ChangeKeysEq
import Derived.Laws.StructEq
import Derived.WalkLawsBesides
import Derived.WalkSpells
namespace Go.Proofs.Ytpnccmlajhhpdaa.Abs
noncomputable section
open Go.RowKit

section
variable {P : Program} {m : Map}

theorem info_of_underlying {t : TypeId} {d : TypeDesc} (h : P.underlying t = some d) : ∃ i, P.info? t = some i := by
  cases hi : P.info? t with
  | some i => exact ⟨i, rfl⟩
  | none => simp [Program.underlying, hi] at h
theorem run_isAggO {t : TypeId} {b : Bool} (h : aggO P t = some b) (w : World) : (isAgg t).run P w = .ok b w := by
  unfold aggO at h
  split at h
  · rename_i d hd
    simp only [Option.some.injEq] at h
    subst h
    unfold isAgg
    rw [Sem.run_bind, run_underlying hd, Result.andThen_ok]
    cases d <;> rfl
  · cases h
theorem info_of_agg {t : TypeId} {b : Bool} (h : aggO P t = some b) : ∃ i, P.info? t = some i := by
  unfold aggO at h
  split at h
  · rename_i d hd; exact info_of_underlying hd
  · cases h
theorem cells_info {t : TypeId} {i : TypeInfo} (h : P.info? t = some i) : P.cellsOf t = i.size := by simp [Program.cellsOf, h]

theorem part_ok {t : TypeId} {cs : List AV} {cs' : List Value} {o : Nat} {x : AV} (hr : RelL m cs cs') (h : partA P t cs o = some x) (w : World) :
    ∃ x', (part t ⟨cs'⟩ o).run P w = .ok x' w ∧ Rel m x x' := by
  unfold partA at h
  split at h
  · rename_i ha
    split at h
    · simp only [Option.some.injEq] at h
      subst h
      obtain ⟨i, hi⟩ := info_of_agg ha
      refine ⟨.agg ⟨(cs'.drop o).take (P.cellsOf t)⟩, ?_, .agg ((hr.drop o).take _)⟩
      unfold part
      rw [Sem.run_bind, run_isAggO ha, Result.andThen_ok]
      simp only [if_true, Sem.run_bind, run_sizeOf w hi, Result.andThen_ok, Sem.run_pure]
      congr 2
      apply Array.ext'
      simp [List.take_drop]
      try rw [Nat.add_comm]
    · cases h
  · rename_i ha
    obtain ⟨y, hy, hxy⟩ := hr.get o x h
    refine ⟨y, ?_, hxy⟩
    unfold part
    rw [Sem.run_bind, run_isAggO ha, Result.andThen_ok]
    simp [hy]
  · cases h

theorem rel_bool {a : Bool} {y : Value} (h : Rel m (.bool a) y) : y = .bool a := by cases h; rfl
theorem rel_int {k : IntKind} {n : Int} {y : Value} (h : Rel m (.int k n) y) : y = .int k n := by cases h; rfl

theorem str_beq {n v n' v' : Nat} {s s' : ByteArray} (h1 : s.data.toList.length = n) (h2 : enc s.data.toList = v) (h3 : s'.data.toList.length = n') (h4 : enc s'.data.toList = v') :
    (Nat.beq n n' && Nat.beq v v') = (s == s') := by
  subst h1 h2 h3 h4
  rw [enc_eq]
  obtain ⟨⟨x⟩⟩ := s
  obtain ⟨⟨y⟩⟩ := s'
  show (x == y) = ((⟨x⟩ : Array UInt8) == ⟨y⟩)
  simp

mutual
theorem eqA_ok : ∀ (d : Nat) (t : TypeId) (x y : AV) (x' y' : Value) (b : Bool), eqA P d t x y = some b → Rel m x x' → Rel m y y' → ∀ (D : Nat) (w : World), d ≤ D → (Op.equalIn D t x' y').run P w = .ok b w
  | 0, _, _, _, _, _, _, h, _, _, _, _, _ => by simp [eqA] at h
  | d + 1, t, x, y, x', y', b, h, hx, hy, D, w, hD => by
    obtain ⟨D, rfl⟩ : ∃ E, D = E + 1 := ⟨D - 1, by omega⟩
    simp only [eqA] at h
    split at h
    · rename_i hu
      split at h
      · simp only [Option.some.injEq] at h; subst h
        rw [rel_bool hx, rel_bool hy]; exact run_equalIn_bool' w D t _ _ hu
      · cases h
    · rename_i k hu
      split at h
      · split at h
        · rename_i hk
          simp only [Option.some.injEq] at h; subst h; subst hk
          rw [rel_int hx, rel_int hy]; exact run_equalIn_int w D t _ _ _ _ hu
        · cases h
      · cases h
    · rename_i hu
      split at h
      · simp only [Option.some.injEq] at h; subst h
        cases hx with | str s h1 h2 => cases hy with | str s' h3 h4 =>
        rw [run_equalIn_string w D t _ _ hu, str_beq h1 h2 h3 h4, beq_toListBytes]
      · cases h
    · rename_i fs hu
      split at h
      · split at h
        · cases h
        · rename_i xs ys hp
          cases hx with | agg hx => cases hy with | agg hy =>
          have hu' : P.underlying t = some (.struct (P.fieldsOf t)) := by simp [Program.fieldsOf, hu]
          rw [run_equalIn_struct w D t _ _ hu' (by simpa using hp)]
          exact eqFields_ok d _ xs ys _ _ b h hx hy D w (by omega)
      · cases h
    · rename_i n e hu
      split at h
      · rename_i xs ys
        cases hx with | agg hx => cases hy with | agg hy =>
        split at h
        · rename_i i hi
          rw [run_equalIn_array w D _ _ hu hi, List.range_eq_range']
          exact eqElems_ok d e _ n 0 xs ys _ _ b h hx hy D w (by omega)
        · cases h
      · cases h
    · cases h
theorem eqFields_ok : ∀ (d : Nat) (fs : List Field) (xs ys : List AV) (xs' ys' : List Value) (b : Bool), eqFields P d fs xs ys = some b → RelL m xs xs' → RelL m ys ys' → ∀ (D : Nat) (w : World), d ≤ D → (Op.eqFields D ⟨xs'⟩ ⟨ys'⟩ fs).run P w = .ok b w
  | 0, _, _, _, _, _, _, h, _, _, _, _, _ => by simp [eqFields] at h
  | d + 1, [], xs, ys, xs', ys', b, h, _, _, D, w, _ => by
    simp only [eqFields, Option.some.injEq] at h; subst h
    simp [Op.eqFields]
  | d + 1, f :: fs, xs, ys, xs', ys', b, h, hx, hy, D, w, hD => by
    simp only [eqFields] at h
    split at h
    · rename_i hn
      have := eqFields_ok d fs xs ys xs' ys' b h hx hy D w (by omega)
      simp only [Op.eqFields, hn, ne_eq, not_true_eq_false, if_false]
      exact this
    · rename_i hn
      split at h
      · rename_i a c ha hc
        obtain ⟨a', pa, ra⟩ := part_ok hx ha w
        obtain ⟨c', pc, rc⟩ := part_ok hy hc w
        simp only [Op.eqFields, ne_eq, hn, not_false_eq_true, if_true, Sem.run_bind, pa, pc, Result.andThen_ok]
        split at h
        · rename_i he
          rw [eqA_ok d f.type a c a' c' true he ra rc D w (by omega)]
          simp only [Result.andThen_ok, Bool.not_true, Bool.false_eq_true, if_false]
          exact eqFields_ok d fs xs ys xs' ys' b h hx hy D w (by omega)
        · rename_i r hne
          cases b with
          | true => exact absurd h (by simpa using hne)
          | false =>
            rw [eqA_ok d f.type a c a' c' false h ra rc D w (by omega)]
            simp
      · cases h
theorem eqElems_ok : ∀ (d : Nat) (e : TypeId) (s n i : Nat) (xs ys : List AV) (xs' ys' : List Value) (b : Bool), eqElems P d e s n i xs ys = some b → RelL m xs xs' → RelL m ys ys' → ∀ (D : Nat) (w : World), d ≤ D → (Op.eqItems D e s ⟨xs'⟩ ⟨ys'⟩ (List.range' i n)).run P w = .ok b w
  | 0, _, _, _, _, _, _, _, _, _, h, _, _, _, _, _ => by simp [eqElems] at h
  | d + 1, e, s, 0, i, xs, ys, xs', ys', b, h, _, _, D, w, _ => by
    simp only [eqElems, Option.some.injEq] at h; subst h
    simp [Op.eqItems]
  | d + 1, e, s, n + 1, i, xs, ys, xs', ys', b, h, hx, hy, D, w, hD => by
    simp only [eqElems] at h
    split at h
    · rename_i a c ha hc
      obtain ⟨a', pa, ra⟩ := part_ok hx ha w
      obtain ⟨c', pc, rc⟩ := part_ok hy hc w
      rw [List.range'_succ]
      simp only [Op.eqItems, Sem.run_bind, pa, pc, Result.andThen_ok]
      split at h
      · rename_i he
        rw [eqA_ok d e a c a' c' true he ra rc D w (by omega)]
        simp only [Result.andThen_ok, Bool.not_true, Bool.false_eq_true, if_false]
        exact eqElems_ok d e s n (i + 1) xs ys xs' ys' b h hx hy D w (by omega)
      · rename_i r hne
        cases b with
        | true => exact absurd h (by simpa using hne)
        | false =>
          rw [eqA_ok d e a c a' c' false h ra rc D w (by omega)]
          simp
    · cases h
end

/-- it computes: a value, the heap as it was, the world as it was -/
def PureOK (m : Map) (w : World) (H : AHeap) (nx : ANext) (H' : AHeap) (r : Result Value) : Prop := ∃ v v', nx = .val v ∧ H' = H ∧ r = .ok v' w ∧ Rel m v v'

variable {w : World} {H H' : AHeap} {nx : ANext}
theorem outV_ok {x : Option AV} {x' : Value} {r : Result Value} (h : outV H x = some (nx, H')) (hx : ∀ v, x = some v → r = .ok x' w ∧ Rel m v x') : PureOK m w H nx H' r := by
  unfold outV at h
  split at h
  · rename_i v
    simp only [Option.some.injEq, Prod.mk.injEq] at h
    obtain ⟨rfl, rfl⟩ := h
    obtain ⟨h1, h2⟩ := hx v rfl
    exact ⟨v, x', rfl, rfl, h1, h2⟩
  · cases h
theorem val_ok {v : AV} {v' : Value} {r : Result Value} (h : some (ANext.val v, H) = some (nx, H')) (hr : r = .ok v' w) (hv : Rel m v v') : PureOK m w H nx H' r := by
  simp only [Option.some.injEq, Prod.mk.injEq] at h
  obtain ⟨rfl, rfl⟩ := h
  exact ⟨v, v', rfl, rfl, hr, hv⟩

theorem eqGuard_not (op : BinOp) (t : TypeId) (x y : Operand) (a b : Value) (h : op ≠ .eql) (h2 : op ≠ .neq) (w : World) : (eqGuard op t x y a b).run P w = .ok () w := by
  cases op <;> first | exact absurd rfl h | exact absurd rfl h2 | rfl
theorem eqGuard_plain (op : BinOp) (t : TypeId) (x y : Operand) (a b : Value) (h : ∀ l, a ≠ .agg l) (h2 : a ≠ .nilIface ∨ b ≠ .nilIface) (w : World) : (eqGuard op t x y a b).run P w = .ok () w := by
  by_cases h3 : op = .eql ∨ op = .neq
  · have h4 : ∀ op', (eqGuard op' t x y a b).run P w = .ok () w := by
      intro op'
      cases a
      case agg l => exact absurd rfl (h l)
      case nilIface => cases b <;> first | (rcases h2 with h2 | h2 <;> exact absurd rfl h2) | (cases op' <;> rfl)
      all_goals (cases op' <;> rfl)
    exact h4 op
  · exact eqGuard_not op t x y a b (fun e => h3 (.inl e)) (fun e => h3 (.inr e)) w
theorem eqGuard_agg (op : BinOp) (t : TypeId) (x y : Operand) (l : Array Value) (b : Value) (hg : P.eqGuardType P.depth t = false) (w : World) : (eqGuard op t x y (.agg l) b).run P w = .ok () w := by
  cases b
  case agg l' => exact run_eqGuard_agg w op t x y l l' hg
  all_goals (cases op <;> rfl)
theorem eqGuard_lit (op : BinOp) (t : TypeId) (x y : Operand) (h : (isConstB x || isConstB y) = true) (w : World) : (eqGuard op t x y .nilIface .nilIface).run P w = .ok () w := by
  cases x <;> cases y <;> simp [isConstB] at h <;> cases op <;> rfl

theorem binInt_ok (op : BinOp) (k : IntKind) (a b : Int) (v : AV) (h : binInt op k a b = some v) (t : TypeId) (w : World) : ∃ v', (binOp op t (.int k a) (.int k b)).run P w = .ok v' w ∧ Rel m v v' := by
  unfold binInt at h
  cases op <;> simp only [reduceCtorEq, Option.some.injEq] at h
  all_goals first
    | (subst h; refine ⟨_, ?_, by constructor⟩; simp [binOp, Op.intArith, Op.intBits, Op.intCmp]; done)
    | (split at h
       · cases h
       · rename_i hb
         simp only [Option.some.injEq] at h; subst h; refine ⟨_, ?_, by constructor⟩; simp [binOp, Op.intDiv, hb])
theorem binShift_ok (op : BinOp) (k k' : IntKind) (a b : Int) (v : AV) (h : binShift op k a b = some v) (hop : op = .shl ∨ op = .shr) (t : TypeId) (w : World) : ∃ v', (binOp op t (.int k a) (.int k' b)).run P w = .ok v' w ∧ Rel m v v' := by
  unfold binShift at h
  split at h
  · cases h
  · rename_i hb
    rcases hop with rfl | rfl
    all_goals
      simp only [Option.some.injEq] at h
      subst h
      refine ⟨_, ?_, by constructor⟩
      simp [binOp, Op.shift, hb]
theorem binII_ok (op : BinOp) (k k' : IntKind) (a b : Int) (v : AV) (h : binII op k k' a b = some v) (t : TypeId) (w : World) : ∃ v', (binOp op t (.int k a) (.int k' b)).run P w = .ok v' w ∧ Rel m v v' := by
  unfold binII at h
  split at h
  · exact binShift_ok _ k k' a b v h (.inl rfl) t w
  · exact binShift_ok _ k k' a b v h (.inr rfl) t w
  · split at h
    · rename_i hk
      subst hk
      exact binInt_ok _ k a b v h t w
    · cases h
theorem size_bytes (s : ByteArray) : s.size = s.data.toList.length := by rw [Array.length_toList]; rfl
theorem append_bytes (a b : ByteArray) : (a ++ b).data.toList = a.data.toList ++ b.data.toList := by simp
theorem binStr_ok (op : BinOp) (n a k b : Nat) (s s' : ByteArray) (h1 : s.data.toList.length = n) (h2 : enc s.data.toList = a) (h3 : s'.data.toList.length = k) (h4 : enc s'.data.toList = b) (v : AV) (h : binStr op n a k b = some v) (t : TypeId) (w : World) :
    ∃ v', (binOp op t (.string s) (.string s')).run P w = .ok v' w ∧ Rel m v v' := by
  unfold binStr at h
  split at h
  · split at h
    · rename_i hle
      simp only [Option.some.injEq] at h; subst h
      have hle := Nat.le_of_ble_eq_true hle
      refine ⟨.string (s ++ s'), ?_, .str _ ?_ ?_⟩
      · have hs : ¬ (((s.size + s'.size : Nat) : Int) > IntKind.i64.max) := by
          have e1 := size_bytes s
          have e2 := size_bytes s'
          have e3 : IntKind.i64.max = 9223372036854775807 := by decide
          rw [e3]; omega
        simp only [binOp, Op.stringOp]
        rw [if_neg hs]
        rfl
      · rw [append_bytes, List.length_append, h1, h3]
      · rw [append_bytes, enc_append, h1, h2, h4]
    · cases h
  · simp only [Option.some.injEq] at h; subst h
    refine ⟨_, ?_, by constructor⟩
    simp only [binOp, Op.stringOp, str_beq h1 h2 h3 h4, beq_toListBytes]
    rfl
  · simp only [Option.some.injEq] at h; subst h
    refine ⟨_, ?_, by constructor⟩
    simp only [binOp, Op.stringOp, str_beq h1 h2 h3 h4, beq_toListBytes]
    rfl
  · cases h
theorem nil_ok {t : TypeId} {x y : AV} {x' y' : Value} {b : Bool} (ho : isNilOk P t x y = true) (h : nilA x y = some b) (hx : Rel m x x') (hy : Rel m y y') (D : Nat) (w : World) : (Op.equalIn (D + 1) t x' y').run P w = .ok b w := by
  unfold nilA at h
  split at h
  all_goals first
    | (cases h; done)
    | (simp only [Option.some.injEq] at h; subst h
       cases hx; cases hy
       unfold isNilOk at ho
       cases hu : P.underlying t with
       | none => simp [hu] at ho
       | some d => cases d <;> simp [hu] at ho <;> simp [Op.equalIn, run_underlying hu])
theorem equal_nils {t : TypeId} {ms : Array (String × TypeId)} (hu : P.underlying t = some (.interface ms)) (w : World) : (Op.equal t .nilIface .nilIface).run P w = .ok true w := by
  have h : ∀ D, (Op.equalIn (D + 1) t .nilIface .nilIface).run P w = .ok true w := fun D => by simp [Op.equalIn, run_underlying hu]
  exact h 9999
theorem samePtr_ok {t : TypeId} {b o : Nat} {y : AV} {x' y' : Value} {r : Bool} (hx : Rel m (.ptr b o) x') (hy : Rel m y y') (h : samePtr P t b o y = some r) (D : Nat) (w : World) : (Op.equalIn (D + 1) t x' y').run P w = .ok r w := by
  unfold samePtr at h
  split at h
  · split at h
    · rename_i e hu
      split at h
      · rename_i hc
        obtain ⟨h1, h2, h3⟩ := hc
        have h1 := Nat.eq_of_beq_eq_true h1
        have h2 := Nat.eq_of_beq_eq_true h2
        subst h1 h2
        simp only [Option.some.injEq] at h; subst h
        obtain ⟨i, hi⟩ := Option.isSome_iff_exists.1 h3
        cases hx with | ptr hm =>
        cases hy with | ptr hm' =>
        rw [hm] at hm'; cases hm'
        simp [Op.equalIn, run_underlying hu, sizeOf, typeInfo, hi, run_sameAddr_same]
      · cases h
    · cases h
  · split at h
    · rename_i e hu
      simp only [Option.some.injEq] at h; subst h
      cases hx; cases hy
      simp [Op.equalIn, run_underlying hu]
    · cases h
  · cases h
theorem eqOther_ok (t : TypeId) (x y : AV) (x' y' : Value) (hx : Rel m x x') (hy : Rel m y y') (b : Bool) (h : eqOther P t x y = some b) (w : World) : (Op.equal t x' y').run P w = .ok b w := by
  unfold eqOther at h
  unfold Op.equal Op.maxDepth
  split at h
  · split at h
    · cases h
    · exact eqA_ok 2000 t _ y x' y' b h hx hy 10000 w (by omega)
  · exact eqA_ok 2000 t _ y x' y' b h hx hy 10000 w (by omega)
  · exact samePtr_ok hx hy h 9999 w
  · split at h
    · rename_i ho
      exact nil_ok ho h hx hy 9999 w
    · cases h
theorem eqGuard_other (op : BinOp) (t : TypeId) (px py : Operand) (x y : AV) (x' y' : Value) (hx : Rel m x x') (hy : Rel m y y') (b : Bool) (h : eqOther P t x y = some b) (hn : x ≠ .nifc ∨ y ≠ .nifc) (w : World) : (eqGuard op t px py x' y').run P w = .ok () w := by
  by_cases ha : ∃ l, x = .agg l
  · obtain ⟨l, rfl⟩ := ha
    cases hx with | agg hl =>
    unfold eqOther at h
    simp only at h
    split at h
    · cases h
    · rename_i hg
      exact eqGuard_agg op t px py _ y' (by simpa using hg) w
  · refine eqGuard_plain op t px py x' y' (fun l e => ?_) ?_ w
    · subst e; cases hx; exact ha ⟨_, rfl⟩
    · rcases hn with hn | hn
      · exact .inl (fun e => by subst e; cases hx; exact hn rfl)
      · exact .inr (fun e => by subst e; cases hy; exact hn rfl)
theorem binOther_ok (op : BinOp) (t : TypeId) (px py : Operand) (x y : AV) (x' y' : Value) (hx : Rel m x x') (hy : Rel m y y') (v : AV) (h : binOther P op t x y = some v) (hn : x ≠ .nifc ∨ y ≠ .nifc) (hi : ∀ k n, x ≠ .int k n) (hs : ∀ n v, x ≠ .str n v) (w : World) :
    ∃ v', (do eqGuard op t px py x' y'; binOp op t x' y').run P w = .ok v' w ∧ Rel m v v' := by
  have hxi : ∀ k n, x' ≠ .int k n := fun k n e => by subst e; cases hx; exact hi _ _ rfl
  have hxs : ∀ s, x' ≠ .string s := fun s e => by subst e; cases hx; exact hs _ _ rfl
  unfold binOther at h
  split at h
  · split at h
    · rename_i b hb
      simp only [Option.some.injEq] at h; subst h
      refine ⟨.bool b, ?_, .bool b⟩
      rw [Sem.run_bind, eqGuard_other .eql t px py x y x' y' hx hy b hb hn w, Result.andThen_ok]
      have he := eqOther_ok t x y x' y' hx hy b hb w
      cases hx <;> cases hy <;> first | exact absurd rfl (hi _ _) | exact absurd rfl (hs _ _) | (simp only [binOp]; simp [he])
    · cases h
  · split at h
    · rename_i b hb
      simp only [Option.some.injEq] at h; subst h
      refine ⟨.bool (!b), ?_, .bool _⟩
      rw [Sem.run_bind, eqGuard_other .neq t px py x y x' y' hx hy b hb hn w, Result.andThen_ok]
      have he := eqOther_ok t x y x' y' hx hy b hb w
      cases hx <;> cases hy <;> first | exact absurd rfl (hi _ _) | exact absurd rfl (hs _ _) | (simp only [binOp]; simp [he])
    · cases h
  · cases h
theorem binA_ok (op : BinOp) (t : TypeId) (px py : Operand) (x y : AV) (x' y' : Value) (hx : Rel m x x') (hy : Rel m y y') (v : AV) (h : binA P op t x y (isConstB px || isConstB py) = some v) (w : World) :
    ∃ v', (do eqGuard op t px py x' y'; binOp op t x' y').run P w = .ok v' w ∧ Rel m v v' := by
  unfold binA at h
  split at h
  · split at h
    · cases hx; cases hy
      rw [Sem.run_bind, eqGuard_plain _ _ _ _ _ _ (fun l e => by cases e) (.inl (fun e => by cases e)) w, Result.andThen_ok]
      exact binII_ok _ _ _ _ _ v h t w
    · cases h
  · split at h
    · cases hx with | str s h1 h2 => cases hy with | str s' h3 h4 =>
      rw [Sem.run_bind, eqGuard_plain _ _ _ _ _ _ (fun l e => by cases e) (.inl (fun e => by cases e)) w, Result.andThen_ok]
      exact binStr_ok _ _ _ _ _ s s' h1 h2 h3 h4 v h t w
    · cases h
  · split at h
    · split at h
      · rename_i hl
        cases hx; cases hy
        have hg := eqGuard_lit (P := P) op t px py hl w
        rw [Sem.run_bind, hg, Result.andThen_ok]
        unfold nilIf at h
        split at h
        all_goals first
          | (cases h; done)
          | (rename_i hu
             simp only [Option.some.injEq] at h; subst h
             refine ⟨_, ?_, by constructor⟩
             have he := equal_nils hu w
             simp only [binOp]
             simp [he])
      · cases h
    · rename_i hy'
      exact binOther_ok op t px py _ y x' y' hx hy v h (.inr (fun e => hy' e)) (fun _ _ e => by cases e) (fun _ _ e => by cases e) w
  · rename_i h1 h2 h3
    exact binOther_ok op t px py x y x' y' hx hy v h (.inl h3) (fun k n e => h1 k n e) (fun n v e => h2 n v e) w

end

end
end Go.Proofs.Ytpnccmlajhhpdaa.Abs
