/- What the small machine's values and rows stand for in a world. -/
import Derived.Test.YtpnccmlajhhpdaaAbs2
import Derived.Below
import Derived.Laws.IdiomCopy
import Derived.Laws.Rows
import Derived.Laws.Append
import Derived.Laws.AppendOwn
import Derived.Deep.MidRow
namespace Go.Proofs.Ytpnccmlajhhpdaa.Abs
noncomputable section
open Go.RowKit

/-- where a row lies: its block, from which cell on, how many cells the block has; none: it isn't there yet -/
abbrev Map := List (Option (Nat × Nat × Nat))
def Map.le (m m' : Map) : Prop := ∀ (b : Nat) (p : Nat × Nat × Nat), m[b]? = some (some p) → m'[b]? = some (some p)
theorem Map.le_refl (m : Map) : Map.le m m := fun _ _ h => h
theorem Map.le_trans {a b c : Map} (h : Map.le a b) (k : Map.le b c) : Map.le a c := fun i p hi => k i p (h i p hi)
theorem Map.le_append (m e : Map) : Map.le m (m ++ e) := fun b p h => by
  have hb : b < m.length := (List.getElem?_eq_some_iff.1 h).1
  rw [List.getElem?_append_left hb]; exact h
theorem Map.le_set {m : Map} {k : Nat} (h : m[k]? = some none) (p : Nat × Nat × Nat) : Map.le m (m.set k (some p)) := fun b q hb => by
  by_cases e : k = b
  · subst e; rw [h] at hb; cases hb
  · rw [List.getElem?_set_ne e]; exact hb

mutual
inductive Rel (m : Map) : AV → Value → Prop
  | bool (b : Bool) : Rel m (.bool b) (.bool b)
  | int (k : IntKind) (n : Int) : Rel m (.int k n) (.int k n)
  | str {n v : Nat} (s : ByteArray) (hn : s.data.toList.length = n) (hv : enc s.data.toList = v) : Rel m (.str n v) (.string s)
  | ptr {b o g s z : Nat} (h : m[b]? = some (some (g, s, z))) : Rel m (.ptr b o) (.pointer (some ⟨g, s + o, none⟩))
  | nilp : Rel m .nilp (.pointer none)
  | sl {b o n sz cap g s z : Nat} (h : m[b]? = some (some (g, s, z))) (hn : n ≤ cap) (hz : s + o + cap * sz ≤ z) : Rel m (.sl b o n sz) (.slice (some ⟨g, s + o, none⟩) n cap)
  | nsl : Rel m .nsl (.slice none 0 0)
  | esl (a : Addr) (cap : Nat) : Rel m .esl (.slice (some a) 0 cap)
  | mp {b g : Nat} (h : m[b]? = some (some (g, 0, 0))) : Rel m (.mp b) (.map (some g))
  | nmp : Rel m .nmp (.map none)
  | fn {f : FuncId} {l c : List AV} {l' c' : List Value} (h : RelL m l l') (k : RelL m c c') : Rel m (.fn f l c) (.func (.func f) ⟨l'⟩ ⟨c'⟩)
  | nfn : Rel m .nfn .nilFunc
  | ifc {t : TypeId} {v : AV} {v' : Value} (h : Rel m v v') : Rel m (.ifc t v) (.iface t v')
  | nifc : Rel m .nifc .nilIface
  | agg {l : List AV} {l' : List Value} (h : RelL m l l') : Rel m (.agg l) (.agg ⟨l'⟩)
  | tup {l : List AV} {l' : List Value} (h : RelL m l l') : Rel m (.tup l) (.tuple ⟨l'⟩)
  | yld {b g : Nat} (h : m[b]? = some (some (g, 0, 0))) : Rel m (.yld b) (.func (.yield g) #[] #[])
  | gptr (g o : Nat) : Rel m (.gptr g o) (.pointer (some ⟨g, o, none⟩))
inductive RelL (m : Map) : List AV → List Value → Prop
  | nil : RelL m [] []
  | cons {x : AV} {y : Value} {l : List AV} {l' : List Value} (h : Rel m x y) (k : RelL m l l') : RelL m (x :: l) (y :: l')
end

mutual
theorem Rel.mono {m m' : Map} (hm : Map.le m m') : ∀ {x : AV} {y : Value}, Rel m x y → Rel m' x y
  | _, _, .bool b => .bool b
  | _, _, .int k n => .int k n
  | _, _, .str s hn hv => .str s hn hv
  | _, _, .ptr h => .ptr (hm _ _ h)
  | _, _, .nilp => .nilp
  | _, _, .sl h a b => .sl (hm _ _ h) a b
  | _, _, .nsl => .nsl
  | _, _, .esl a c => .esl a c
  | _, _, .mp h => .mp (hm _ _ h)
  | _, _, .nmp => .nmp
  | _, _, .fn h k => .fn (RelL.mono hm h) (RelL.mono hm k)
  | _, _, .nfn => .nfn
  | _, _, .ifc h => .ifc (Rel.mono hm h)
  | _, _, .nifc => .nifc
  | _, _, .agg h => .agg (RelL.mono hm h)
  | _, _, .tup h => .tup (RelL.mono hm h)
  | _, _, .yld h => .yld (hm _ _ h)
  | _, _, .gptr g o => .gptr g o
theorem RelL.mono {m m' : Map} (hm : Map.le m m') : ∀ {x : List AV} {y : List Value}, RelL m x y → RelL m' x y
  | _, _, .nil => .nil
  | _, _, .cons h k => .cons (Rel.mono hm h) (RelL.mono hm k)
end

section
variable {m : Map}
theorem RelL.length {l : List AV} {l' : List Value} (h : RelL m l l') : l.length = l'.length := by
  induction l generalizing l' with
  | nil => cases h; rfl
  | cons x l ih => cases h with | cons _ k => simp [ih k]
theorem RelL.get {l : List AV} {l' : List Value} (h : RelL m l l') : ∀ (i : Nat) (x : AV), l[i]? = some x → ∃ y, l'[i]? = some y ∧ Rel m x y := by
  induction l generalizing l' with
  | nil => intro i x hx; simp at hx
  | cons x l ih =>
    cases h with
    | cons hx k =>
      intro i u hu
      cases i with
      | zero => simp at hu; subst hu; exact ⟨_, rfl, hx⟩
      | succ i => simpa using ih k i u (by simpa using hu)
theorem RelL.append {a b : List AV} {a' b' : List Value} (h : RelL m a a') (k : RelL m b b') : RelL m (a ++ b) (a' ++ b') := by
  induction a generalizing a' with
  | nil => cases h; simpa using k
  | cons x a ih => cases h with | cons hx h => exact .cons hx (ih h)
theorem RelL.take {a : List AV} {a' : List Value} (h : RelL m a a') : ∀ n, RelL m (a.take n) (a'.take n) := by
  induction a generalizing a' with
  | nil => intro n; cases h; simpa using RelL.nil
  | cons x a ih =>
    intro n
    cases h with
    | cons hx h => cases n with
      | zero => exact .nil
      | succ n => exact .cons hx (ih h n)
theorem RelL.drop {a : List AV} {a' : List Value} (h : RelL m a a') : ∀ n, RelL m (a.drop n) (a'.drop n) := by
  induction a generalizing a' with
  | nil => intro n; cases h; simpa using RelL.nil
  | cons x a ih =>
    intro n
    cases h with
    | cons hx h => cases n with
      | zero => exact .cons hx h
      | succ n => exact ih h n
theorem RelL.of_get : ∀ {l : List AV} {l' : List Value}, l.length = l'.length → (∀ (i : Nat) (x : AV) (y : Value), l[i]? = some x → l'[i]? = some y → Rel m x y) → RelL m l l'
  | [], [], _, _ => .nil
  | [], _ :: _, h, _ => by simp at h
  | _ :: _, [], h, _ => by simp at h
  | x :: l, y :: l', h, hr => .cons (hr 0 x y rfl rfl) (RelL.of_get (by simpa using h) (fun i a b ha hb => hr (i + 1) a b (by simpa using ha) (by simpa using hb)))
theorem RelL.replicate {x : AV} {y : Value} (h : Rel m x y) : ∀ n, RelL m (List.replicate n x) (List.replicate n y)
  | 0 => .nil
  | n + 1 => .cons h (RelL.replicate h n)
theorem RelL.reps {a : List AV} {a' : List Value} (h : RelL m a a') : ∀ n, RelL m (List.replicate n a).flatten (List.replicate n a').flatten
  | 0 => .nil
  | n + 1 => by simpa [List.replicate_succ] using h.append (RelL.reps h n)

/-- the cells of a value -/
theorem Rel.cells {x : AV} {y : Value} (h : Rel m x y) : RelL m x.cells y.cells.toList := by
  cases h
  case agg h => exact h
  case tup h => exact .cons (.tup h) .nil
  all_goals exact .cons (by constructor <;> assumption) .nil
theorem Rel.one {x : AV} {y : Value} (h : Rel m x y) (hx : x.one = true) : y.oneCell' = true := by
  cases h <;> first | rfl | simp [AV.one] at hx
theorem RelL.one {l : List AV} {l' : List Value} (h : RelL m l l') (hx : l.all AV.one = true) : ∀ v ∈ l', v.oneCell' = true := by
  induction l generalizing l' with
  | nil => cases h; intro v hv; simp at hv
  | cons x l ih =>
    cases h with
    | cons h1 h2 =>
      simp only [List.all_cons, Bool.and_eq_true] at hx
      intro v hv
      rcases List.mem_cons.1 hv with rfl | hv
      · exact h1.one hx.1
      · exact ih h2 hx.2 v hv
end

mutual
theorem ofVal_rel (m : Map) : ∀ (v : Value) (x : AV), ofVal v = some x → Rel m x v
  | .bool b, x, h => by simp only [ofVal, Option.some.injEq] at h; subst h; exact .bool b
  | .int k n, x, h => by simp only [ofVal, Option.some.injEq] at h; subst h; exact .int k n
  | .string s, x, h => by simp only [ofVal, Option.some.injEq] at h; subst h; exact .str s rfl rfl
  | .pointer none, x, h => by simp only [ofVal, Option.some.injEq] at h; subst h; exact .nilp
  | .slice none 0 0, x, h => by simp only [ofVal, Option.some.injEq] at h; subst h; exact .nsl
  | .map none, x, h => by simp only [ofVal, Option.some.injEq] at h; subst h; exact .nmp
  | .nilFunc, x, h => by simp only [ofVal, Option.some.injEq] at h; subst h; exact .nfn
  | .nilIface, x, h => by simp only [ofVal, Option.some.injEq] at h; subst h; exact .nifc
  | .iface t v, x, h => by
    simp only [ofVal] at h
    split at h
    · rename_i y hy
      simp only [Option.some.injEq] at h; subst h; exact .ifc (ofVal_rel m v y hy)
    · cases h
  | .agg ⟨l⟩, x, h => by
    simp only [ofVal] at h
    split at h
    · rename_i y hy
      simp only [Option.some.injEq] at h; subst h; exact .agg (ofVals_rel m l y hy)
    · cases h
  | .tuple ⟨l⟩, x, h => by
    simp only [ofVal] at h
    split at h
    · rename_i y hy
      simp only [Option.some.injEq] at h; subst h; exact .tup (ofVals_rel m l y hy)
    · cases h
  | .func (.func f) ⟨a⟩ ⟨b⟩, x, h => by
    simp only [ofVal] at h
    split at h
    · rename_i y z hy hz
      simp only [Option.some.injEq] at h; subst h; exact .fn (ofVals_rel m a y hy) (ofVals_rel m b z hz)
    · cases h
  | .func (.method _) _ _, x, h => by simp [ofVal] at h
  | .func (.methodOf _ _) _ _, x, h => by simp [ofVal] at h
  | .func (.via _ _ _ _) _ _, x, h => by simp [ofVal] at h
  | .func (.yield _) _ _, x, h => by simp [ofVal] at h
  | .float _ _, x, h => by simp [ofVal] at h
  | .complex _ _ _, x, h => by simp [ofVal] at h
  | .pointer (some _), x, h => by simp [ofVal] at h
  | .slice (some _) _ _, x, h => by simp [ofVal] at h
  | .slice none 0 (_ + 1), x, h => by simp [ofVal] at h
  | .slice none (_ + 1) _, x, h => by simp [ofVal] at h
  | .map (some _), x, h => by simp [ofVal] at h
  | .chan _, x, h => by simp [ofVal] at h
theorem ofVals_rel (m : Map) : ∀ (v : List Value) (x : List AV), ofVals v = some x → RelL m x v
  | [], x, h => by simp only [ofVals, Option.some.injEq] at h; subst h; exact .nil
  | v :: l, x, h => by
    simp only [ofVals] at h
    split at h
    · rename_i y z hy hz
      simp only [Option.some.injEq] at h; subst h; exact .cons (ofVal_rel m v y hy) (ofVals_rel m l z hz)
    · cases h
end

/-! ### a store into some cells of a block -/
theorem setCells_other (g k : Nat) (h : k ≠ g) : ∀ (vs : List Value) (o : Nat) (w : World), (w.setCells g o vs).heap[k]? = w.heap[k]?
  | [], _, _ => rfl
  | v :: r, o, w => by rw [World.setCells, setCells_other g k h r, Below.heap_setCell _ _ _ _ h]
theorem setCells_size (g : Nat) : ∀ (vs : List Value) (o : Nat) (w : World), (w.setCells g o vs).heap.size = w.heap.size
  | [], _, _ => rfl
  | v :: r, o, w => by rw [World.setCells, setCells_size g r]; simp
theorem below_setCells {B g : Nat} (hg : B ≤ g) {a : World} : ∀ (vs : List Value) (o : Nat) (w : World), Below B a w → Below B a (w.setCells g o vs)
  | [], _, _, h => h
  | v :: r, o, _, h => below_setCells hg r _ _ (h.setCell (p := ⟨g, o, none⟩) hg v)
theorem setCells_same (g : Nat) (e : TypeId) (fz : Nat × Nat) : ∀ (vs : List Value) (o : Nat) (c : Array Value) (w : World), w.heap[g]? = some (.cells c e fz) →
    ∃ c', (w.setCells g o vs).heap[g]? = some (.cells c' e fz) ∧ c'.size = c.size ∧ ∀ i, i < c.size → c'[i]? = if o ≤ i ∧ i < o + vs.length then vs[i - o]? else c[i]?
  | [], o, c, w, h => ⟨c, h, rfl, fun i _ => by rw [if_neg (by simp)]⟩
  | v :: r, o, c, w, h => by
    have h1 : (w.setCell ⟨g, o, none⟩ v).heap[g]? = some (.cells (c.setIfInBounds o v) e fz) := by
      simp [World.setCell, Array.getElem?_modify, h]
    obtain ⟨c', h2, h3, h4⟩ := setCells_same g e fz r (o + 1) _ _ h1
    refine ⟨c', h2, by simpa using h3, fun i hi => ?_⟩
    rw [h4 i (by simpa using hi)]
    by_cases a : o + 1 ≤ i ∧ i < o + 1 + r.length
    · rw [if_pos a, if_pos (by simp; omega), show i - o = (i - (o + 1)) + 1 by omega, List.getElem?_cons_succ]
    · rw [if_neg a]
      by_cases b : o = i
      · subst b
        rw [if_pos (by simp), Nat.sub_self, Array.getElem?_setIfInBounds_self_of_lt hi]
        simp
      · rw [if_neg (by simp; omega), Array.getElem?_setIfInBounds_ne b]

/-! ### what fits -/
/-- a row lies in a block -/
def RowAt (m : Map) (g s z n : Nat) (t : T AV) (e : TypeId) (w : World) : Prop :=
  ∃ (c : Array Value) (fz : Nat × Nat), w.heap[g]? = some (.cells c e fz) ∧ c.size = z ∧ s + n ≤ z ∧ (∀ i, i < z → ¬ (fz.1 ≤ i ∧ i < fz.2)) ∧ (∀ i, n ≤ i → t.get i = none) ∧
    ∀ i, i < n → ∃ x y, t.get i = some x ∧ c[s + i]? = some y ∧ Rel m x y ∧ y.oneCell' = true
inductive RelM (m : Map) : List (AV × AV) → List MapEntry → Prop
  | nil : RelM m [] []
  | cons {k v : AV} {en : MapEntry} {l : List (AV × AV)} {l' : List MapEntry} (hk : Rel m k en.key) (hv : Rel m v en.val) (h : RelM m l l') : RelM m ((k, v) :: l) (en :: l')
theorem RelM.mono {m m' : Map} (hm : Map.le m m') {l : List (AV × AV)} {l' : List MapEntry} (h : RelM m l l') : RelM m' l l' := by
  induction h with
  | nil => exact .nil
  | cons hk hv _ ih => exact .cons (hk.mono hm) (hv.mono hm) ih
def MapAt (m : Map) (g : Nat) (es : List (AV × AV)) (w : World) : Prop := ∃ (es' : Array MapEntry) (clock : Nat), w.heap[g]? = some (.map es' clock) ∧ RelM m es es'.toList
/-- a row that was there, which is read alone -/
def RoAt (m : Map) (w0 : World) (g s : Nat) (t : T AV) : Prop := g < w0.heap.size ∧ ∀ i x, t.get i = some x → ∃ y, w0.cell? ⟨g, s + i, none⟩ = some y ∧ Rel m x y ∧ y.oneCell' = true
theorem RoAt.mono {m m' : Map} (hm : Map.le m m') {w0 : World} {g s : Nat} {t : T AV} (h : RoAt m w0 g s t) : RoAt m' w0 g s t :=
  ⟨h.1, fun i x hx => by obtain ⟨y, a, b, c⟩ := h.2 i x hx; exact ⟨y, a, b.mono hm, c⟩⟩
/-- behind its last cell the block is not marked -/
def Unfz (g z : Nat) (w : World) : Prop := ∀ (c : Array Value) (e : TypeId) (fz : Nat × Nat), w.heap[g]? = some (.cells c e fz) → ¬ (fz.1 ≤ z ∧ z < fz.2)
theorem Unfz.world {g z : Nat} {w w' : World} (h : Unfz g z w) (hw : w'.heap[g]? = w.heap[g]?) : Unfz g z w' := fun c e fz hc => h c e fz (by rw [← hw]; exact hc)
theorem Unfz.zero {g z : Nat} {w : World} {c : Array Value} {e : TypeId} (h : w.heap[g]? = some (.cells c e (0, 0))) : Unfz g z w := fun c' e' fz hc => by
  rw [h] at hc
  cases hc
  simp
/-- a loop over a function, in its block -/
def LoopAt (m : Map) (g : Nat) (r : ALoop) (w : World) : Prop :=
  ∃ r' : Loop, w.heap[g]? = some (.loop r') ∧ r'.state = r.st ∧ r'.pending = r.pend.code ∧ r'.tmps.size = r.N ∧ (∀ t v, r.tmps.get t = some v → ∃ v', r'.tmps[t]? = some v' ∧ Rel m v v') ∧
    r'.params = r.ps ∧ r'.assign = r.assign ∧ r'.body = r.body ∧ m[r.dfr]? = some (some (r'.defers, 0, 0))
def KeepAt (m : Map) (g : Nat) (q : AKeep) (w : World) : Prop := match q with
  | .loop r => LoopAt m g r w
  | .dfr => w.heap[g]? = some (.deferred (some []))
  | .shut => w.heap[g]? = some (.deferred none)
theorem LoopAt.mono {m m' : Map} (hm : Map.le m m') {g : Nat} {r : ALoop} {w : World} (h : LoopAt m g r w) : LoopAt m' g r w := by
  obtain ⟨r', a1, a2, a3, a4, a5, a6, a7, a8, a9⟩ := h
  exact ⟨r', a1, a2, a3, a4, fun t v hv => by obtain ⟨v', b1, b2⟩ := a5 t v hv; exact ⟨v', b1, b2.mono hm⟩, a6, a7, a8, hm _ _ a9⟩
theorem KeepAt.mono {m m' : Map} (hm : Map.le m m') {g : Nat} {q : AKeep} {w : World} (h : KeepAt m g q w) : KeepAt m' g q w := by
  cases q with
  | loop r => exact LoopAt.mono hm h
  | dfr => exact h
  | shut => exact h
theorem KeepAt.world {m : Map} {g : Nat} {q : AKeep} {w w' : World} (h : KeepAt m g q w) (hw : w'.heap[g]? = w.heap[g]?) : KeepAt m g q w' := by
  cases q with
  | loop r => obtain ⟨r', a1, a2⟩ := h; exact ⟨r', hw.trans a1, a2⟩
  | dfr => exact hw.trans h
  | shut => exact hw.trans h
theorem KeepAt.some {m : Map} {g : Nat} {q : AKeep} {w : World} (h : KeepAt m g q w) : ∃ o : Obj, w.heap[g]? = some o := by
  cases q with
  | loop r => obtain ⟨r', a1, _⟩ := h; exact ⟨_, a1⟩
  | dfr => exact ⟨_, h⟩
  | shut => exact ⟨_, h⟩
def AObj.alive : AObj → Bool
  | .dead => false
  | .ro _ => false
  | .glob _ => false
  | _ => true
/-- where a call began, and blocks that stay as they are -/
structure Base where
  w : World
  pins : List (Nat × Obj) := []
  floor : Nat := 0
abbrev Base.heap (b : Base) : Array Obj := b.w.heap
instance : Coe World Base := ⟨fun w => { w := w }⟩
/-- a world, and what the small machine has of it -/
structure Fits (w0 : Base) (m : Map) (H : AHeap) (w : World) : Prop where
  below : Below w0.heap.size w0.w w
  len : m.length = H.next
  fresh : ∀ b, H.next ≤ b → H.get b = none
  wf : ∀ b n t e, H.get b = some (.row n t e) → ∀ i, n ≤ i → t.get i = none
  row : ∀ b n t e g s z, H.get b = some (.row n t e) → m[b]? = some (some (g, s, z)) → w0.heap.size ≤ g ∧ RowAt m g s z n t e w
  map : ∀ b es g s z, H.get b = some (.map es) → m[b]? = some (some (g, s, z)) → s = 0 ∧ z = 0 ∧ w0.heap.size ≤ g ∧ MapAt m g es w
  obj : ∀ b q g s z, H.get b = some (.obj q) → m[b]? = some (some (g, s, z)) → s = 0 ∧ z = 0 ∧ w0.heap.size ≤ g ∧ KeepAt m g q w
  exact : ∀ b n t e g s z, H.get b = some (.row n t e) → m[b]? = some (some (g, s, z)) → memB e H.ex = true → (s = 0 ∧ z = n) ∧ Unfz g z w
  ro : ∀ b t g s z, H.get b = some (.ro t) → m[b]? = some (some (g, s, z)) → RoAt m w0.w g s t
  glob : ∀ b t, H.get b = some (.glob t) → ∃ z, m[b]? = some (some (b, 0, z)) ∧ RoAt m w0.w b 0 t
  floor : w0.floor ≤ w.heap.size
  pin : ∀ k o, (k, o) ∈ w0.pins → w.heap[k]? = some o ∧ ∀ b o' s z, H.get b = some o' → o'.alive = true → m[b]? ≠ some (some (k, s, z))
  sep : ∀ b b' o o' g s z s' z', b ≠ b' → H.get b = some o → H.get b' = some o' → o.alive = true → o'.alive = true → m[b]? = some (some (g, s, z)) → m[b']? = some (some (g, s', z')) → False

theorem RowAt.mono {m m' : Map} (hm : Map.le m m') {g s z n : Nat} {t : T AV} {e : TypeId} {w : World} (h : RowAt m g s z n t e w) : RowAt m' g s z n t e w := by
  obtain ⟨c, fz, a1, a2, a3, a4, a5, a6⟩ := h
  exact ⟨c, fz, a1, a2, a3, a4, a5, fun i hi => by obtain ⟨x, y, b1, b2, b3, b4⟩ := a6 i hi; exact ⟨x, y, b1, b2, b3.mono hm, b4⟩⟩
theorem RowAt.world {m : Map} {g s z n : Nat} {t : T AV} {e : TypeId} {w w' : World} (h : RowAt m g s z n t e w) (hw : w'.heap[g]? = w.heap[g]?) : RowAt m g s z n t e w' := by
  obtain ⟨c, fz, a1, a2⟩ := h
  exact ⟨c, fz, hw.trans a1, a2⟩
theorem MapAt.mono {m m' : Map} (hm : Map.le m m') {g : Nat} {es : List (AV × AV)} {w : World} (h : MapAt m g es w) : MapAt m' g es w := by
  obtain ⟨a, c, h1, h2⟩ := h
  exact ⟨a, c, h1, h2.mono hm⟩
theorem MapAt.world {m : Map} {g : Nat} {es : List (AV × AV)} {w w' : World} (h : MapAt m g es w) (hw : w'.heap[g]? = w.heap[g]?) : MapAt m g es w' := by
  obtain ⟨a, c, h1, h2⟩ := h
  exact ⟨a, c, hw.trans h1, h2⟩

section
variable {w0 : Base} {w : World} {m : Map} {H : AHeap}
theorem heap_lt {w : World} {k : Nat} {o : Obj} (h : w.heap[k]? = some o) : k < w.heap.size := (Array.getElem?_eq_some_iff.1 h).1
theorem get_put_same (b : Nat) (o : AObj) : (H.put b o).get b = some o := T.get_set_same _ _ _
theorem get_put_other {b b' : Nat} (o : AObj) (h : b ≠ b') : (H.put b o).get b' = H.get b' := T.get_set_other _ _ h
theorem get_new_same (o : AObj) : (H.new o).get H.next = some o := T.get_set_same _ _ _
theorem get_new_other {b' : Nat} (o : AObj) (h : H.next ≠ b') : (H.new o).get b' = H.get b' := T.get_set_other _ _ h
theorem Fits.lt_next (F : Fits w0 m H w) {b : Nat} {o : AObj} (h : H.get b = some o) : b < H.next := by
  rcases Nat.lt_or_ge b H.next with hb | hb
  · exact hb
  · rw [F.fresh b hb] at h; cases h
theorem Fits.mapped_lt (F : Fits w0 m H w) {b : Nat} {o : AObj} {g s z : Nat} (h : H.get b = some o) (ho : o.alive = true) (hm : m[b]? = some (some (g, s, z))) : g < w.heap.size := by
  cases o with
  | row n t e => obtain ⟨_, c, fz, hc, _⟩ := F.row b n t e g s z h hm; exact heap_lt hc
  | map es => obtain ⟨_, _, _, a, c, hc, _⟩ := F.map b es g s z h hm; exact heap_lt hc
  | obj q => obtain ⟨_, _, _, hk⟩ := F.obj b q g s z h hm; obtain ⟨_, hc⟩ := hk.some; exact heap_lt hc
  | dead => cases ho
  | ro t => cases ho
  | glob t => cases ho
theorem Fits.size (F : Fits w0 m H w) : w0.heap.size ≤ w.heap.size := F.below.size

/-- the world changes where the machine has nothing -/
theorem Fits.world {w' : World} (F : Fits w0 m H w) (hb : Below w0.heap.size w0.w w') (hw : ∀ b o g s z, H.get b = some o → o.alive = true → m[b]? = some (some (g, s, z)) → w'.heap[g]? = w.heap[g]?) (hp : ∀ k o, (k, o) ∈ w0.pins → w'.heap[k]? = w.heap[k]?) (hz : w.heap.size ≤ w'.heap.size) : Fits w0 m H w' where
  floor := Nat.le_trans F.floor hz
  pin k o hk := ⟨(hp k o hk).trans (F.pin k o hk).1, (F.pin k o hk).2⟩
  below := hb
  len := F.len
  fresh := F.fresh
  wf := F.wf
  row b n t e g s z h hm := ⟨(F.row b n t e g s z h hm).1, (F.row b n t e g s z h hm).2.world (hw b _ g s z h rfl hm)⟩
  map b es g s z h hm := ⟨(F.map b es g s z h hm).1, (F.map b es g s z h hm).2.1, (F.map b es g s z h hm).2.2.1, (F.map b es g s z h hm).2.2.2.world (hw b _ g s z h rfl hm)⟩
  obj b q g s z h hm := ⟨(F.obj b q g s z h hm).1, (F.obj b q g s z h hm).2.1, (F.obj b q g s z h hm).2.2.1, (F.obj b q g s z h hm).2.2.2.world (hw b _ g s z h rfl hm)⟩
  exact b n t e g s z h hm he := ⟨(F.exact b n t e g s z h hm he).1, (F.exact b n t e g s z h hm he).2.world (hw b _ g s z h rfl hm)⟩
  ro := F.ro
  glob := F.glob
  sep := F.sep
theorem Fits.drew (F : Fits w0 m H w) : Fits w0 m H w.drew := F.world F.below.drew (fun _ _ _ _ _ _ _ _ => rfl) (fun _ _ _ => rfl) (Nat.le_refl _)
theorem Fits.alloc (F : Fits w0 m H w) (o : Obj) : Fits w0 m H (w.alloc o) :=
  F.world (F.below.alloc F.size o) (fun _ _ _ _ _ h ho hm => Below.heap_alloc _ _ _ (F.mapped_lt h ho hm)) (fun _ _ hk => Below.heap_alloc _ _ _ (heap_lt (F.pin _ _ hk).1)) (by rw [World.size_alloc]; exact Nat.le_succ _)

/-- a row dies -/
theorem Fits.kill (F : Fits w0 m H w) {b : Nat} (hlt : b < H.next) : Fits w0 m (H.put b .dead) w where
  below := F.below
  floor := F.floor
  pin k o hk := ⟨(F.pin k o hk).1, fun b' o' s z h ho => by
    by_cases e' : b = b'
    · subst e'; rw [get_put_same] at h; cases h; cases ho
    · rw [get_put_other _ e'] at h; exact (F.pin k o hk).2 b' o' s z h ho⟩
  len := F.len
  fresh b' h := by
    by_cases e : b = b'
    · subst e; exact absurd hlt (Nat.not_lt.2 h)
    · rw [get_put_other _ e]; exact F.fresh b' h
  wf b' n t e h := by
    by_cases e' : b = b'
    · subst e'; rw [get_put_same] at h; cases h
    · rw [get_put_other _ e'] at h; exact F.wf b' n t e h
  row b' n t e g s z h hm := by
    by_cases e' : b = b'
    · subst e'; rw [get_put_same] at h; cases h
    · rw [get_put_other _ e'] at h; exact F.row b' n t e g s z h hm
  map b' es g s z h hm := by
    by_cases e' : b = b'
    · subst e'; rw [get_put_same] at h; cases h
    · rw [get_put_other _ e'] at h; exact F.map b' es g s z h hm
  obj b' q g s z h hm := by
    by_cases e' : b = b'
    · subst e'; rw [get_put_same] at h; cases h
    · rw [get_put_other _ e'] at h; exact F.obj b' q g s z h hm
  exact b' n t e g s z h hm he := by
    by_cases e' : b = b'
    · subst e'; rw [get_put_same] at h; cases h
    · rw [get_put_other _ e'] at h; exact F.exact b' n t e g s z h hm he
  ro b' t g s z h hm := by
    by_cases e' : b = b'
    · subst e'; rw [get_put_same] at h; cases h
    · rw [get_put_other _ e'] at h; exact F.ro b' t g s z h hm
  glob b' t h := by
    by_cases e' : b = b'
    · subst e'; rw [get_put_same] at h; cases h
    · rw [get_put_other _ e'] at h; exact F.glob b' t h
  sep b1 b2 o1 o2 g s z s' z' hne h1 h2 a1 a2 m1 m2 := by
    by_cases e1 : b = b1
    · subst e1; rw [get_put_same] at h1; cases h1; cases a1
    · by_cases e2 : b = b2
      · subst e2; rw [get_put_same] at h2; cases h2; cases a2
      · rw [get_put_other _ e1] at h1; rw [get_put_other _ e2] at h2
        exact F.sep b1 b2 o1 o2 g s z s' z' hne h1 h2 a1 a2 m1 m2

/-- an object is put in another one's place, in its own block -/
theorem Fits.put (F : Fits w0 m H w) {b : Nat} {o o' : AObj} {g s z : Nat} {w' : World} (h : H.get b = some o) (ho : o.alive = true) (ho' : o'.alive = true) (hm : m[b]? = some (some (g, s, z)))
    (hb : Below w0.heap.size w0.w w') (hother : ∀ k, k ≠ g → k < w.heap.size → w'.heap[k]? = w.heap[k]?)
    (hrow : ∀ n t e, o' = .row n t e → w0.heap.size ≤ g ∧ RowAt m g s z n t e w') (hmap : ∀ es, o' = .map es → s = 0 ∧ z = 0 ∧ w0.heap.size ≤ g ∧ MapAt m g es w') (hex : ∀ n t e, o' = .row n t e → memB e H.ex = true → (s = 0 ∧ z = n) ∧ Unfz g z w')
    (hobj : ∀ q, o' = .obj q → s = 0 ∧ z = 0 ∧ w0.heap.size ≤ g ∧ KeepAt m g q w' := by intro q h; first | (cases h; done) | (simp [rowOf] at h; done)) : Fits w0 m (H.put b o') w' where
  floor := by
    refine Nat.le_trans F.floor (Nat.le_of_not_lt fun hlt => ?_)
    have hgx : ∃ q, w'.heap[g]? = some q := by
      cases o' with
      | row n t e => obtain ⟨_, c, fz, h1, _⟩ := hrow n t e rfl; exact ⟨_, h1⟩
      | map es => obtain ⟨_, _, _, a, c, h1, _⟩ := hmap es rfl; exact ⟨_, h1⟩
      | obj q => exact (hobj q rfl).2.2.2.some
      | dead => cases ho'
      | ro t => cases ho'
      | glob t => cases ho'
    by_cases e : w'.heap.size = g
    · obtain ⟨q, hq⟩ := hgx
      have := heap_lt hq
      omega
    · have h1 := hother _ e hlt
      rw [Array.getElem?_eq_none (Nat.le_refl _), Array.getElem?_eq_getElem hlt] at h1
      cases h1
  pin k o2 hk := by
    have hg : k ≠ g := fun e => (F.pin k o2 hk).2 b o s z h ho (by rw [e]; exact hm)
    refine ⟨(hother k hg (heap_lt (F.pin k o2 hk).1)).trans (F.pin k o2 hk).1, fun b' o3 s' z' h' ho3 => ?_⟩
    by_cases e' : b = b'
    · subst e'
      intro hm'
      rw [hm] at hm'
      cases hm'
      exact hg rfl
    · rw [get_put_other _ e'] at h'
      exact (F.pin k o2 hk).2 b' o3 s' z' h' ho3
  below := hb
  len := F.len
  fresh b' hb' := by
    by_cases e : b = b'
    · subst e; exact absurd (F.lt_next h) (Nat.not_lt.2 hb')
    · rw [get_put_other _ e]; exact F.fresh b' hb'
  wf b' n t e h' := by
    by_cases e' : b = b'
    · subst e'
      rw [get_put_same] at h'
      cases h'
      obtain ⟨_, c, fz, _, _, _, _, h5, _⟩ := hrow n t e rfl
      exact h5
    · rw [get_put_other _ e'] at h'; exact F.wf b' n t e h'
  row b' n t e g' s' z' h' hm' := by
    by_cases e' : b = b'
    · subst e'
      rw [get_put_same] at h'; rw [hm] at hm'
      cases hm'; cases h'
      exact hrow n t e rfl
    · rw [get_put_other _ e'] at h'
      have hr := F.row b' n t e g' s' z' h' hm'
      refine ⟨hr.1, hr.2.world (hother g' (fun eg => ?_) (F.mapped_lt h' rfl hm'))⟩
      subst eg
      exact F.sep b b' o _ _ s z s' z' e' h h' ho rfl hm hm'
  map b' es g' s' z' h' hm' := by
    by_cases e' : b = b'
    · subst e'
      rw [get_put_same] at h'; rw [hm] at hm'
      cases hm'; cases h'
      exact hmap es rfl
    · rw [get_put_other _ e'] at h'
      have hr := F.map b' es g' s' z' h' hm'
      refine ⟨hr.1, hr.2.1, hr.2.2.1, hr.2.2.2.world (hother g' (fun eg => ?_) (F.mapped_lt h' rfl hm'))⟩
      subst eg
      exact F.sep b b' o _ _ s z s' z' e' h h' ho rfl hm hm'
  obj b' q g' s' z' h' hm' := by
    by_cases e' : b = b'
    · subst e'
      rw [get_put_same] at h'; rw [hm] at hm'
      cases hm'; cases h'
      exact hobj q rfl
    · rw [get_put_other _ e'] at h'
      have hr := F.obj b' q g' s' z' h' hm'
      refine ⟨hr.1, hr.2.1, hr.2.2.1, hr.2.2.2.world (hother g' (fun eg => ?_) (F.mapped_lt h' rfl hm'))⟩
      subst eg
      exact F.sep b b' o _ _ s z s' z' e' h h' ho rfl hm hm'
  exact b' n t e g' s' z' h' hm' he := by
    by_cases e' : b = b'
    · subst e'
      rw [get_put_same] at h'; rw [hm] at hm'
      cases hm'; cases h'
      exact hex n t e rfl he
    · rw [get_put_other _ e'] at h'
      have hr := F.exact b' n t e g' s' z' h' hm' he
      refine ⟨hr.1, hr.2.world (hother g' (fun eg => ?_) (F.mapped_lt h' rfl hm'))⟩
      subst eg
      exact F.sep b b' o _ _ s z s' z' e' h h' ho rfl hm hm'
  ro b' t g' s' z' h' hm' := by
    by_cases e' : b = b'
    · subst e'; rw [get_put_same] at h'; cases h'; cases ho'
    · rw [get_put_other _ e'] at h'; exact F.ro b' t g' s' z' h' hm'
  glob b' t h' := by
    by_cases e' : b = b'
    · subst e'; rw [get_put_same] at h'; cases h'; cases ho'
    · rw [get_put_other _ e'] at h'; exact F.glob b' t h'
  sep b1 b2 o1 o2 g' s1 z1 s2 z2 hne h1 h2 a1 a2 m1 m2 := by
    by_cases e1 : b = b1
    · subst e1
      rw [get_put_other _ hne] at h2
      exact F.sep b b2 o o2 g' s1 z1 s2 z2 hne h h2 ho a2 m1 m2
    · by_cases e2 : b = b2
      · subst e2
        rw [get_put_other _ e1] at h1
        exact F.sep b1 b o1 o g' s1 z1 s2 z2 hne h1 h a1 ho m1 m2
      · rw [get_put_other _ e1] at h1; rw [get_put_other _ e2] at h2
        exact F.sep b1 b2 o1 o2 g' s1 z1 s2 z2 hne h1 h2 a1 a2 m1 m2

/-- a new object, in a block that nobody has -/
theorem Fits.new (F : Fits w0 m H w) (o : AObj) {g s z : Nat}
    (hfree : ∀ b o' s' z', H.get b = some o' → o'.alive = true → m[b]? ≠ some (some (g, s', z')))
    (hrow : ∀ n t e, o = .row n t e → w0.heap.size ≤ g ∧ RowAt (m ++ [some (g, s, z)]) g s z n t e w) (hmap : ∀ es, o = .map es → s = 0 ∧ z = 0 ∧ w0.heap.size ≤ g ∧ MapAt (m ++ [some (g, s, z)]) g es w) (hex : ∀ n t e, o = .row n t e → memB e H.ex = true → (s = 0 ∧ z = n) ∧ Unfz g z w)
    (hro : ∀ t, o = .ro t → RoAt (m ++ [some (g, s, z)]) w0.w g s t := by intro t h; first | (cases h; done) | (simp [rowOf] at h; done)) (hpin : ∀ k o', (k, o') ∈ w0.pins → o.alive = true → g ≠ k)
    (hobj : ∀ q, o = .obj q → s = 0 ∧ z = 0 ∧ w0.heap.size ≤ g ∧ KeepAt (m ++ [some (g, s, z)]) g q w := by intro q h; first | (cases h; done) | (simp [rowOf] at h; done))
    (hglob : ∀ t, o ≠ .glob t := by intro t h; first | (cases h; done) | (simp [rowOf] at h; done)) :
    Fits w0 (m ++ [some (g, s, z)]) (H.new o) w where
  below := F.below
  floor := F.floor
  pin k o' hk := ⟨(F.pin k o' hk).1, fun b o2 s' z' h ho hm => by
    by_cases eb : H.next = b
    · subst eb
      rw [get_new_same] at h
      rw [← F.len, List.getElem?_append_right (Nat.le_refl _)] at hm
      simp at hm
      cases h
      exact hpin k o' hk ho hm.1
    · rw [get_new_other _ eb] at h
      rw [List.getElem?_append_left (by rw [F.len]; exact F.lt_next h)] at hm
      exact (F.pin k o' hk).2 b o2 s' z' h ho hm⟩
  len := by simp [F.len, AHeap.new]
  fresh b hb := by
    have : H.next + 1 ≤ b := hb
    rw [get_new_other _ (by omega)]; exact F.fresh b (by omega)
  wf b n t e h := by
    by_cases eb : H.next = b
    · subst eb
      rw [get_new_same] at h
      cases h
      obtain ⟨_, c, fz, _, _, _, _, h5, _⟩ := hrow n t e rfl
      exact h5
    · rw [get_new_other _ eb] at h; exact F.wf b n t e h
  row b n t e g' s' z' h hm := by
    by_cases eb : H.next = b
    · subst eb
      rw [get_new_same] at h
      rw [← F.len, List.getElem?_append_right (Nat.le_refl _)] at hm
      simp at hm
      obtain ⟨rfl, rfl, rfl⟩ := hm
      cases h
      exact hrow n t e rfl
    · rw [get_new_other _ eb] at h
      have hlt := F.lt_next h
      rw [List.getElem?_append_left (by rw [F.len]; exact hlt)] at hm
      have hr := F.row b n t e g' s' z' h hm
      exact ⟨hr.1, hr.2.mono (Map.le_append m _)⟩
  map b es g' s' z' h hm := by
    by_cases eb : H.next = b
    · subst eb
      rw [get_new_same] at h
      rw [← F.len, List.getElem?_append_right (Nat.le_refl _)] at hm
      simp at hm
      obtain ⟨rfl, rfl, rfl⟩ := hm
      cases h
      exact hmap es rfl
    · rw [get_new_other _ eb] at h
      have hlt := F.lt_next h
      rw [List.getElem?_append_left (by rw [F.len]; exact hlt)] at hm
      have hr := F.map b es g' s' z' h hm
      exact ⟨hr.1, hr.2.1, hr.2.2.1, hr.2.2.2.mono (Map.le_append m _)⟩
  obj b q g' s' z' h hm := by
    by_cases eb : H.next = b
    · subst eb
      rw [get_new_same] at h
      rw [← F.len, List.getElem?_append_right (Nat.le_refl _)] at hm
      simp at hm
      obtain ⟨rfl, rfl, rfl⟩ := hm
      cases h
      exact hobj q rfl
    · rw [get_new_other _ eb] at h
      have hlt := F.lt_next h
      rw [List.getElem?_append_left (by rw [F.len]; exact hlt)] at hm
      have hr := F.obj b q g' s' z' h hm
      exact ⟨hr.1, hr.2.1, hr.2.2.1, hr.2.2.2.mono (Map.le_append m _)⟩
  exact b n t e g' s' z' h hm he := by
    by_cases eb : H.next = b
    · subst eb
      rw [get_new_same] at h
      rw [← F.len, List.getElem?_append_right (Nat.le_refl _)] at hm
      simp at hm
      obtain ⟨rfl, rfl, rfl⟩ := hm
      cases h
      exact hex n t e rfl he
    · rw [get_new_other _ eb] at h
      have hlt := F.lt_next h
      rw [List.getElem?_append_left (by rw [F.len]; exact hlt)] at hm
      exact F.exact b n t e g' s' z' h hm he
  ro b t g' s' z' h hm := by
    by_cases eb : H.next = b
    · subst eb
      rw [get_new_same] at h
      rw [← F.len, List.getElem?_append_right (Nat.le_refl _)] at hm
      simp at hm
      obtain ⟨rfl, rfl, rfl⟩ := hm
      cases h
      exact hro t rfl
    · rw [get_new_other _ eb] at h
      have hlt := F.lt_next h
      rw [List.getElem?_append_left (by rw [F.len]; exact hlt)] at hm
      exact (F.ro b t g' s' z' h hm).mono (Map.le_append m _)
  glob b t h := by
    by_cases eb : H.next = b
    · subst eb
      rw [get_new_same] at h
      exact absurd (Option.some.inj h) (hglob t)
    · rw [get_new_other _ eb] at h
      obtain ⟨z', h1, h2⟩ := F.glob b t h
      exact ⟨z', Map.le_append m _ _ _ h1, h2.mono (Map.le_append m _)⟩
  sep b1 b2 o1 o2 g' s1 z1 s2 z2 hne h1 h2 a1 a2 m1 m2 := by
    have old : ∀ {b : Nat} {o'' : AObj} {p : Nat × Nat × Nat}, H.next ≠ b → (H.new o).get b = some o'' → (m ++ [some (g, s, z)])[b]? = some (some p) → H.get b = some o'' ∧ m[b]? = some (some p) := by
      intro b o'' p eb h hm
      rw [get_new_other _ eb] at h
      have hlt := F.lt_next h
      rw [List.getElem?_append_left (by rw [F.len]; exact hlt)] at hm
      exact ⟨h, hm⟩
    have new : ∀ {p : Nat × Nat × Nat}, (m ++ [some (g, s, z)])[H.next]? = some (some p) → p = (g, s, z) := by
      intro p hm
      rw [← F.len, List.getElem?_append_right (Nat.le_refl _)] at hm
      simp at hm
      exact hm.symm
    by_cases e1 : H.next = b1
    · subst e1
      obtain ⟨h2', m2'⟩ := old hne h2 m2
      have := new m1
      cases this
      exact hfree b2 o2 _ _ h2' a2 m2'
    · obtain ⟨h1', m1'⟩ := old e1 h1 m1
      by_cases e2 : H.next = b2
      · subst e2
        have := new m2
        cases this
        exact hfree b1 o1 _ _ h1' a1 m1'
      · obtain ⟨h2', m2'⟩ := old e2 h2 m2
        exact F.sep b1 b2 o1 o2 g' s1 z1 s2 z2 hne h1' h2' a1 a2 m1' m2'
end

end
end Go.Proofs.Ytpnccmlajhhpdaa.Abs
