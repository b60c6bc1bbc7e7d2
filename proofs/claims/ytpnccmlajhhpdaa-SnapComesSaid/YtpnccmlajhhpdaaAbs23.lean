/- Plain functions in place of code: what they are put together from, and that code comes to what they say. -/
import Derived.Test.YtpnccmlajhhpdaaAbs22
namespace Go.Proofs.Ytpnccmlajhhpdaa.Abs
noncomputable section
open Go.RowKit

abbrev R := Option (ARes × AHeap)
abbrev Bytes := List UInt8
def strA (l : Bytes) : AV := .str l.length (enc l)

/-! ### going on -/
def obind {α : Type} (x : Option α) (k : α → R) : R := match x with
  | some a => k a
  | none => none
def lett {α : Type} (v : α) (k : α → R) : R := k v
def ifB (b : Bool) (x y : R) : R := match b with
  | true => x
  | false => y
theorem ifB_t {x y r : R} (h : ifB true x y = r) : x = r := h
theorem ifB_f {x y r : R} (h : ifB false x y = r) : y = r := h
theorem ifB_true (x y : R) : ifB true x y = x := rfl
theorem ifB_false (x y : R) : ifB false x y = y := rfl
def outK (x : OutT) (k : AV → AHeap → R) : R := match x with
  | some (.val v, h) => k v h
  | _ => none
def effK (x : OutT) (k : AHeap → R) : R := match x with
  | some (.skip, h) => k h
  | _ => none
def callK (x : R) (k : AV → AHeap → R) : R := match x with
  | some (.ret v, h) => k v h
  | some (.panic v, h) => some (.panic v, h)
  | none => none
/-- where a panic can't be -/
def callN (x : R) (k : AV → AHeap → R) : R := match x with
  | some (.ret v, h) => k v h
  | _ => none
/-- a function that is a value -/
def dynC (P : Program) (call : CallF) (f : AV) (args : List AV) (h : AHeap) : R := match callV P h args (some f) with
  | some (.call g as, h) => call g as h
  | some (.val v, h) => some (.ret v, h)
  | _ => none
def chk (b : Bool) (k : R) : R := match b with
  | true => k
  | false => none

def iterR {σ : Type} (z : σ) (f : σ → σ) : Nat → σ
  | 0 => z
  | n + 1 => f (iterR z f n)

theorem ret_inj {r r' : ARes} {h h' : AHeap} (e : some (r, h) = some (r', h')) : r = r' ∧ h = h' := by cases e; exact ⟨rfl, rfl⟩
theorem pan_inj {r r' : ARes} {h h' : AHeap} (e : (r', h') = (r, h)) : r = r' ∧ h = h' := by cases e; exact ⟨rfl, rfl⟩
theorem obind_eq {α : Type} {x : Option α} {a : α} (k : α → R) (e : x = some a) : obind x k = k a := by rw [e]; rfl
theorem lett_eq {α : Type} (v : α) (k : α → R) : lett v k = k v := rfl
theorem obind_val {α : Type} (a : α) (k : α → R) : obind (some a) k = k a := rfl
theorem outK_val (v : AV) (h : AHeap) (k : AV → AHeap → R) : outK (some (.val v, h)) k = k v h := rfl
theorem effK_skip (h : AHeap) (k : AHeap → R) : effK (some (.skip, h)) k = k h := rfl
theorem callN_ret (v : AV) (h : AHeap) (k : AV → AHeap → R) : callN (some (.ret v, h)) k = k v h := rfl
theorem callK_ret (v : AV) (h : AHeap) (k : AV → AHeap → R) : callK (some (.ret v, h)) k = k v h := rfl
theorem callK_panic (v : AV) (h : AHeap) (k : AV → AHeap → R) : callK (some (.panic v, h)) k = some (.panic v, h) := rfl
theorem chk_true (k : R) : chk true k = k := rfl
theorem obind_some {α : Type} {x : Option α} {k : α → R} {r : ARes × AHeap} (h : obind x k = some r) : ∃ a, x = some a ∧ k a = some r := by
  cases x with
  | none => cases h
  | some a => exact ⟨a, rfl, h⟩
theorem lett_some {α : Type} {v : α} {k : α → R} {r : ARes × AHeap} (h : lett v k = some r) : ∃ x, x = v ∧ k x = some r := ⟨v, rfl, h⟩
theorem outK_some {x : OutT} {k : AV → AHeap → R} {r : ARes × AHeap} (h : outK x k = some r) : ∃ v h', x = some (.val v, h') ∧ k v h' = some r := by
  unfold outK at h
  split at h
  · exact ⟨_, _, rfl, h⟩
  · cases h
theorem effK_some {x : OutT} {k : AHeap → R} {r : ARes × AHeap} (h : effK x k = some r) : ∃ h', x = some (.skip, h') ∧ k h' = some r := by
  unfold effK at h
  split at h
  · exact ⟨_, rfl, h⟩
  · cases h
theorem callN_some {x : R} {k : AV → AHeap → R} {r : ARes × AHeap} (h : callN x k = some r) : ∃ v h', x = some (.ret v, h') ∧ k v h' = some r := by
  unfold callN at h
  split at h
  · exact ⟨_, _, rfl, h⟩
  · cases h
theorem callK_some {x : R} {k : AV → AHeap → R} {r : ARes × AHeap} (h : callK x k = some r) : (∃ v h', x = some (.ret v, h') ∧ k v h' = some r) ∨ ∃ v h', x = some (.panic v, h') ∧ r = (.panic v, h') := by
  unfold callK at h
  split at h
  · exact .inl ⟨_, _, rfl, h⟩
  · simp only [Option.some.injEq] at h
    exact .inr ⟨_, _, rfl, h.symm⟩
  · cases h
theorem chk_some {b : Bool} {k : R} {r : ARes × AHeap} (h : chk b k = some r) : b = true ∧ k = some r := by
  cases b with
  | true => exact ⟨rfl, h⟩
  | false => cases h
theorem dynC_some {P : Program} {call : CallF} {f : AV} {args : List AV} {h : AHeap} {r : ARes × AHeap} (hr : dynC P call f args h = some r) :
    (∃ g as h1, callV P h args (some f) = some (.call g as, h1) ∧ call g as h1 = some r) ∨ ∃ v h1, callV P h args (some f) = some (.val v, h1) ∧ r = (.ret v, h1) := by
  unfold dynC at hr
  split at hr
  · rename_i g as h1 e
    exact .inl ⟨g, as, h1, e, hr⟩
  · rename_i v h1 e
    simp only [Option.some.injEq] at hr
    exact .inr ⟨v, h1, e, hr.symm⟩
  · cases hr
/-- a value under another name -/
theorem val_of {α : Type} {o : OutT} {h : AHeap} {x y : α} (K : α → AV) (e : x = y) (hk : o = some (.val (K y), h)) : o = some (.val (K x), h) := by rw [e]; exact hk
theorem val_of2 {α : Type} {o : OutT} {h1 h2 : AHeap} {x y : α} (K : α → AV) (e : x = y) (e2 : h1 = h2) (hk : o = some (.val (K y), h2)) : o = some (.val (K x), h1) := by rw [e, e2]; exact hk

/-! ### values as they are -/
def avInt (k : IntKind) : AV → Option Int
  | .int k' n => match decide (k' = k) with
    | true => some n
    | false => none
  | _ => none
def avBool : AV → Option Bool
  | .bool b => some b
  | _ => none
def avAgg : AV → Option (List AV)
  | .agg l => some l
  | _ => none
def dec : Nat → Nat → Bytes
  | 0, _ => []
  | n + 1, v => UInt8.ofNat (v % 256) :: dec n (v / 256)
def avStr : AV → Option Bytes
  | .str n v => match Nat.beq (enc (dec n v)) v with
    | true => some (dec n v)
    | false => none
  | _ => none
theorem dec_length : ∀ n v, (dec n v).length = n
  | 0, _ => rfl
  | n + 1, v => by rw [dec, List.length_cons, dec_length n]
theorem dec_enc : ∀ l : Bytes, dec l.length (enc l) = l
  | [] => rfl
  | b :: l => by
    rw [List.length_cons, enc_cons, dec]
    have h1 : (b.toNat + 256 * enc l) % 256 = b.toNat := by have := b.toNat_lt; omega
    have h2 : (b.toNat + 256 * enc l) / 256 = enc l := by have := b.toNat_lt; omega
    rw [h1, h2, dec_enc l]
    simp
theorem avInt_some {k : IntKind} {x : AV} {n : Int} (h : avInt k x = some n) : x = .int k n := by
  cases x <;> try (cases h; done)
  simp only [avInt] at h
  split at h
  · rename_i hk
    have := of_decide_eq_true hk
    subst this
    simp only [Option.some.injEq] at h; rw [h]
  · cases h
theorem avBool_some {x : AV} {b : Bool} (h : avBool x = some b) : x = .bool b := by
  cases x <;> try (cases h; done)
  simp only [avBool, Option.some.injEq] at h; rw [h]
theorem avAgg_some {x : AV} {l : List AV} (h : avAgg x = some l) : x = .agg l := by
  cases x <;> try (cases h; done)
  simp only [avAgg, Option.some.injEq] at h; rw [h]
theorem avStr_some {x : AV} {l : Bytes} (h : avStr x = some l) : x = strA l := by
  cases x <;> try (cases h; done)
  rename_i n v
  simp only [avStr] at h
  split at h
  · rename_i e
    simp only [Option.some.injEq] at h; subst h
    rw [strA, dec_length, Nat.eq_of_beq_eq_true e]
  · cases h
theorem avInt_int (k : IntKind) (n : Int) : avInt k (.int k n) = some n := by simp [avInt]
theorem avBool_bool (b : Bool) : avBool (.bool b) = some b := rfl
theorem avAgg_agg (l : List AV) : avAgg (.agg l) = some l := rfl
theorem avStr_str (l : Bytes) : avStr (strA l) = some l := by
  simp only [avStr, strA, dec_enc, Nat.beq_refl]
theorem strA_inj {a b : Bytes} (h : strA a = strA b) : a = b := by
  have := avStr_str a
  rw [h, avStr_str] at this
  simpa using this.symm

/-! ### texts -/
def idxS (l : Bytes) : Int → Option Int
  | .ofNat i => match l[i]? with
    | some b => some (b.toNat : Int)
    | none => none
  | _ => none
def sliceS (l : Bytes) : Int → Int → Option Bytes
  | .ofNat a, .ofNat b => match Nat.ble a b && Nat.ble b l.length with
    | true => some ((l.drop a).take (b - a))
    | false => none
  | _, _ => none
def addS (a b : Bytes) : Option Bytes := match Nat.ble (a.length + b.length) 1000000000 with
  | true => some (a ++ b)
  | false => none
def eqS (a b : Bytes) : Bool := Nat.beq a.length b.length && Nat.beq (enc a) (enc b)
theorem eqS_eq (a b : Bytes) : eqS a b = (a == b) := enc_eq a b
def lenS (l : Bytes) : Int := (l.length : Int)

section
variable {P : Program} {h : AHeap} {t : TypeId}
theorem index_str {k : IntKind} {l : Bytes} {i c : Int} (hu : P.underlying t = some .string) (e : idxS l i = some c) : opIndex P h t (some (strA l)) (some (.int k i)) = some (.val (.int .u8 c), h) := by
  cases i with
  | negSucc i => cases e
  | ofNat i =>
    simp only [idxS] at e
    split at e
    · rename_i b hb
      simp only [Option.some.injEq] at e; subst e
      obtain ⟨h1, h2⟩ := List.getElem?_eq_some_iff.1 hb
      have : opIndex P h t (some (strA l)) (some (.int k (.ofNat i))) = (match P.underlying t with
        | some .string => if Nat.blt i l.length = true then some (.val (.int .u8 ((enc l / 256 ^ i % 256 : Nat) : Int)), h) else none
        | _ => none) := rfl
      rw [this, hu]
      simp only [Nat.blt, Nat.ble_eq_true_of_le (show i.succ ≤ l.length from h1), if_true]
      rw [enc_get l i h1, h2]
    · cases e
theorem slice_str {l r : Bytes} {a b : Int} {A B : Option AV} (hu : P.underlying t = some .string)
    (hlo : (∃ k, A = some (.int k a)) ∨ (A = none ∧ a = 0)) (hhi : (∃ k, B = some (.int k b)) ∨ (B = none ∧ b = lenS l)) (e : sliceS l a b = some r) :
    sliceA P h t (strA l) A B = some (.val (strA r), h) := by
  unfold sliceS at e
  split at e
  · rename_i a b
    split at e
    · rename_i hab
      rw [Bool.and_eq_true] at hab
      obtain ⟨h1, h2⟩ := hab
      simp only [Option.some.injEq] at e; subst e
      have h3 := Nat.le_of_ble_eq_true h1
      have h4 := Nat.le_of_ble_eq_true h2
      have hA2 : boundA A 0 = some a := by
        rcases hlo with ⟨k, rfl⟩ | ⟨rfl, h0⟩
        · rfl
        · have : a = 0 := by have h1 : (a : Int) = 0 := h0; omega
          rw [this]; rfl
      have hB2 : boundA B l.length = some b := by
        rcases hhi with ⟨k, rfl⟩ | ⟨rfl, h0⟩
        · rfl
        · have : b = l.length := by have h1 : (b : Int) = (l.length : Int) := h0; omega
          rw [this]; rfl
      simp only [sliceA, strA, hA2, hB2, sliceStr, hu, h1, h2, and_self, if_true]
      have hle : ((l.drop a).take (b - a)).length = b - a := by rw [List.length_take, List.length_drop]; omega
      rw [hle, enc_take, enc_drop]
    · cases e
  · cases e
theorem add_str {l r s : Bytes} {lit : Bool} (e : addS l r = some s) : opBin P h .add t lit (some (strA l)) (some (strA r)) = some (.val (strA s), h) := by
  unfold addS at e
  split at e
  · rename_i hb
    simp only [Option.some.injEq] at e; subst e
    simp only [opBin, strA, binA, binStr, hb, if_true, outV, List.length_append, enc_append]
  · cases e

/-! ### whole numbers -/
def quoI (k : IntKind) (a b : Int) : Option Int := if b = 0 then none else some (k.wrap (a.tdiv b))
def remI (_ : IntKind) (a b : Int) : Option Int := if b = 0 then none else some (a.tmod b)
def shlI (k : IntKind) (a b : Int) : Option Int := if b < 0 then none else some (k.wrap (a * 2 ^ (min b.toNat k.bits)))
def shrI (k : IntKind) (a b : Int) : Option Int := if b < 0 then none else some (a.fdiv (2 ^ (min b.toNat k.bits)))
def andI (k : IntKind) (a b : Int) : Int := k.wrap (BitVec.ofInt k.bits a &&& BitVec.ofInt k.bits b).toNat
def orI (k : IntKind) (a b : Int) : Int := k.wrap (BitVec.ofInt k.bits a ||| BitVec.ofInt k.bits b).toNat
def xorI (k : IntKind) (a b : Int) : Int := k.wrap (BitVec.ofInt k.bits a ^^^ BitVec.ofInt k.bits b).toNat
def andNotI (k : IntKind) (a b : Int) : Int := k.wrap (BitVec.ofInt k.bits a &&& ~~~ BitVec.ofInt k.bits b).toNat
def comI (k : IntKind) (n : Int) : Int := k.wrap (BitVec.ofInt k.bits (if k.signed then -1 else k.max) ^^^ BitVec.ofInt k.bits n).toNat
theorem quo_int {k : IntKind} {a b c : Int} {lit : Bool} (e : quoI k a b = some c) : opBin P h .quo t lit (some (.int k a)) (some (.int k b)) = some (.val (.int k c), h) := by
  unfold quoI at e
  split at e
  · cases e
  · rename_i hb
    simp only [Option.some.injEq] at e; subst e
    simp only [opBin, binA, binII, binInt, if_neg hb, if_true, outV]
theorem rem_int {k : IntKind} {a b c : Int} {lit : Bool} (e : remI k a b = some c) : opBin P h .rem t lit (some (.int k a)) (some (.int k b)) = some (.val (.int k c), h) := by
  unfold remI at e
  split at e
  · cases e
  · rename_i hb
    simp only [Option.some.injEq] at e; subst e
    simp only [opBin, binA, binII, binInt, if_neg hb, if_true, outV]
theorem shl_int {k k' : IntKind} {a b c : Int} {lit : Bool} (e : shlI k a b = some c) : opBin P h .shl t lit (some (.int k a)) (some (.int k' b)) = some (.val (.int k c), h) := by
  unfold shlI at e
  split at e
  · cases e
  · rename_i hb
    simp only [Option.some.injEq] at e; subst e
    simp only [opBin, binA, binII, binShift, if_neg hb, outV]
theorem shr_int {k k' : IntKind} {a b c : Int} {lit : Bool} (e : shrI k a b = some c) : opBin P h .shr t lit (some (.int k a)) (some (.int k' b)) = some (.val (.int k c), h) := by
  unfold shrI at e
  split at e
  · cases e
  · rename_i hb
    simp only [Option.some.injEq] at e; subst e
    simp only [opBin, binA, binII, binShift, if_neg hb, outV]

/-! ### rows -/
def ldRow (h : AHeap) (n : Nat) : AV → Option (List AV)
  | .ptr b o => rowGet h b o n
  | _ => none
def ldCell (h : AHeap) : AV → Option AV
  | .ptr b o => cellGet h b o
  | _ => none
def stRow (h : AHeap) (n : Nat) (l : List AV) : AV → Option AHeap
  | .ptr b o => match Nat.beq l.length n with
    | true => rowPut h b o l
    | false => none
  | _ => none
def fldP (off : Nat) : AV → Option AV
  | .ptr b o => some (.ptr b (o + off))
  | _ => none
def nilC : AV → Option AV
  | .ptr b o => some (.ptr b o)
  | .fn f a b => some (.fn f a b)
  | .ifc t v => some (.ifc t v)
  | _ => none
def idxP (sz : Nat) : AV → Int → Option AV
  | .sl b o n _, .ofNat i => match Nat.blt i n with
    | true => some (.ptr b (o + i * sz))
    | false => none
  | _, _ => none
def idxA (n sz : Nat) : AV → Int → Option AV
  | .ptr b o, .ofNat i => match Nat.blt i n with
    | true => some (.ptr b (o + i * sz))
    | false => none
  | _, _ => none
def lenL : AV → Option Int
  | .sl _ _ n _ => some (n : Int)
  | .esl => some 0
  | .nsl => some 0
  | _ => none
def partF (off : Nat) (l : List AV) : Option AV := l[off]?
def partG (off n : Nat) (l : List AV) : Option (List AV) := match Nat.ble (off + n) l.length with
  | true => some ((l.drop off).take n)
  | false => none
def extT (i : Nat) : AV → Option AV
  | .tup l => l[i]?
  | _ => none
def newP (h : AHeap) : AV := .ptr h.next 0
def newH (h : AHeap) (e : TypeId) (l : List AV) : AHeap := h.new (rowOf l e)

theorem load_row {x : AV} {n : Nat} {l : List AV} (ha : aggO P t = some true) (hn : P.cellsOf t = n) (e : ldRow h n x = some l) : opLoad P h t (some x) = some (.val (.agg l), h) := by
  cases x <;> try (cases e; done)
  simp only [ldRow] at e
  simp only [opLoad, ha, hn, e]
theorem load_cell {x v : AV} (ha : aggO P t = some false) (e : ldCell h x = some v) : opLoad P h t (some x) = some (.val v, h) := by
  cases x <;> try (cases e; done)
  simp only [ldCell] at e
  simp only [opLoad, ha, e, outV]
theorem store_row {x v : AV} {n : Nat} {h' : AHeap} (hi : (P.info? t).isSome = true) (hn : P.cellsOf t = n) (e : stRow h n v.cells x = some h') : opStore P h t (some x) (some v) = some (.skip, h') := by
  cases x <;> try (cases e; done)
  simp only [stRow] at e
  split at e
  · rename_i hl
    have hl := Nat.eq_of_beq_eq_true hl
    simp only [opStore, hn, hl, hi, and_self, if_true, e]
  · cases e
theorem field_ptr {x v : AV} {s : TypeId} {f off : Nat} (hf : (match P.underlying s with
    | some (.struct fs) => match fs[f]? with
      | some g => Nat.blt 0 (P.cellsOf g.type) && Nat.beq g.offset off
      | none => false
    | _ => false) = true) (e : fldP off x = some v) : opFieldAddr P h s f (some x) = some (.val v, h) := by
  cases x <;> try (cases e; done)
  simp only [fldP, Option.some.injEq] at e; subst e
  split at hf
  · rename_i fs hu
    split at hf
    · rename_i g hg
      rw [Bool.and_eq_true] at hf
      simp only [opFieldAddr, hu, hg, hf.1, if_true, Nat.eq_of_beq_eq_true hf.2]
    · cases hf
  · cases hf
theorem nil_chk {x v : AV} (e : nilC x = some v) : opNil h (some x) = some (.val v, h) := by
  cases x <;> first | (cases e; done) | (simp only [nilC, Option.some.injEq] at e; subst e; rfl)
theorem index_row {x v : AV} {k : IntKind} {i : Int} {e' : TypeId} {sz : Nat} (hu : elemOf P t = some e') (hi : (P.info? e').isSome = true) (hn : P.cellsOf e' = sz) (e : idxP sz x i = some v) : opIndexAddr P h t (some x) (some (.int k i)) = some (.val v, h) := by
  cases x <;> try (cases e; done)
  cases i with
  | negSucc i => cases e
  | ofNat i =>
    simp only [idxP] at e
    split at e
    · rename_i hb
      simp only [Option.some.injEq] at e; subst e
      simp only [opIndexAddr, hu, hb, hi, hn, and_self, if_true]
    · cases e
theorem index_arr {x v : AV} {k : IntKind} {i : Int} {e' : TypeId} {n sz : Nat} (hu : P.underlying t = some (.array n e')) (hi : (P.info? e').isSome = true) (hn : P.cellsOf e' = sz) (e : idxA n sz x i = some v) : opIndexAddr P h t (some x) (some (.int k i)) = some (.val v, h) := by
  cases x <;> try (cases e; done)
  cases i with
  | negSucc i => cases e
  | ofNat i =>
    simp only [idxA] at e
    split at e
    · rename_i hb
      simp only [Option.some.injEq] at e; subst e
      simp only [opIndexAddr, hu, hb, hi, hn, and_self, if_true]
    · cases e
theorem len_row {x : AV} {n : Int} {e' : TypeId} (hu : P.underlying t = some (.slice e')) (e : lenL x = some n) : opLen P h t x = some (.val (.int .i64 n), h) := by
  cases x <;> first | (cases e; done) | (simp only [lenL, Option.some.injEq] at e; subst e; simp only [opLen, hu])
theorem extract_tup {x v : AV} {i : Nat} (e : extT i x = some v) : opExtract h i (some x) = some (.val v, h) := by
  cases x <;> try (cases e; done)
  simp only [extT] at e
  simp only [opExtract, e, outV]
theorem field_one {l : List AV} {v : AV} {f off : Nat} (hf : (match P.underlying t with
    | some (.struct fs) => match fs[f]? with
      | some g => (aggO P g.type == some false) && Nat.beq g.offset off
      | none => false
    | _ => false) = true) (e : partF off l = some v) : opField P h t f (some (.agg l)) = some (.val v, h) := by
  split at hf
  · rename_i fs hu
    split at hf
    · rename_i g hg
      rw [Bool.and_eq_true] at hf
      have h1 : aggO P g.type = some false := by simpa using hf.1
      have h2 := Nat.eq_of_beq_eq_true hf.2
      simp only [partF] at e
      simp only [opField, hu, hg, partA, h1, h2, e, outV]
    · cases hf
  · cases hf
theorem field_row {l r : List AV} {f off n : Nat} (hf : (match P.underlying t with
    | some (.struct fs) => match fs[f]? with
      | some g => (aggO P g.type == some true) && Nat.beq g.offset off && Nat.beq (P.cellsOf g.type) n
      | none => false
    | _ => false) = true) (e : partG off n l = some r) : opField P h t f (some (.agg l)) = some (.val (.agg r), h) := by
  split at hf
  · rename_i fs hu
    split at hf
    · rename_i g hg
      rw [Bool.and_eq_true, Bool.and_eq_true] at hf
      have h1 : aggO P g.type = some true := by simpa using hf.1.1
      have h2 := Nat.eq_of_beq_eq_true hf.1.2
      have h3 := Nat.eq_of_beq_eq_true hf.2
      unfold partG at e
      split at e
      · rename_i hb
        simp only [Option.some.injEq] at e; subst e
        simp only [opField, hu, hg, partA, h1, h2, h3, hb, if_true, outV]
      · cases e
    · cases hf
  · cases hf
theorem eq_other {x y : AV} {b lit : Bool} (hx : (match x with | .int _ _ | .str _ _ | .nifc => false | _ => true) = true) (e : eqOther P t x y = some b) : opBin P h .eql t lit (some x) (some y) = some (.val (.bool b), h) := by
  cases x <;> first | (cases hx; done) | (simp only [opBin, binA, binOther, e, outV])
theorem neq_other {x y : AV} {b lit : Bool} (hx : (match x with | .int _ _ | .str _ _ | .nifc => false | _ => true) = true) (e : eqOther P t x y = some b) : opBin P h .neq t lit (some x) (some y) = some (.val (.bool (!b)), h) := by
  cases x <;> first | (cases hx; done) | (simp only [opBin, binA, binOther, e, outV])
end

/-! ### ways out, and what stands around -/
section
variable {P : Program} {w0 : Base} {m0 : Map} {N : Nat} {l l' : Fr} {ds : DefT} {h h' : AHeap} {Q : Exit → Act → World → Prop} {K : Act → World → Prop}
theorem Go.tN {y : Code} (hk : W P w0 m0 N y Q l ds h) : Go w0 m0 N (Exit.then (y.wp P Q) Q .normal) l ds h := hk
theorem Go.lN (hk : Go w0 m0 N K l ds h) : Go w0 m0 N (Exit.then K Q .normal) l ds h := hk
theorem Go.tE {id : Nat} (hk : Go w0 m0 N (Q (.exit id)) l ds h) : Go w0 m0 N (Exit.then K Q (.exit id)) l ds h := hk
theorem Go.tR (hk : Go w0 m0 N (Q .ret) l ds h) : Go w0 m0 N (Exit.then K Q .ret) l ds h := hk
theorem Go.bN {id : Nat} (hk : Go w0 m0 N (Q .normal) l ds h) : Go w0 m0 N (Exit.inBlock id Q .normal) l ds h := hk
theorem Go.bS {id id' : Nat} (e : Nat.beq id' id = true) (hk : Go w0 m0 N (Q .normal) l ds h) : Go w0 m0 N (Exit.inBlock id Q (.exit id')) l ds h := fun m act w he ha F => by
  have := Nat.eq_of_beq_eq_true e
  show if id' = id then _ else _
  rw [if_pos this]
  exact hk m act w he ha F
theorem Go.bO {id id' : Nat} (e : Nat.beq id' id = false) (hk : Go w0 m0 N (Q (.exit id')) l ds h) : Go w0 m0 N (Exit.inBlock id Q (.exit id')) l ds h := fun m act w he ha F => by
  have : ¬ id' = id := fun h => by subst h; rw [Nat.beq_refl] at e; cases e
  show if id' = id then _ else _
  rw [if_neg this]
  exact hk m act w he ha F
theorem Go.bR {id : Nat} (hk : Go w0 m0 N (Q .ret) l ds h) : Go w0 m0 N (Exit.inBlock id Q .ret) l ds h := hk
/-- a panic passes -/
def Pan (w0 : Base) (m0 : Map) (N : Nat) (Q : Exit → Act → World → Prop) (l : Fr) (ds : DefT) (v : AV) (h' : AHeap) : Prop := ∀ v' m, Ext m0 m → Rel m v v' → ∀ act w, RelAct m N ⟨l.tree, ds⟩ act → Fits w0 m h' w → Q (.panic [{ v := v', recovered := false }]) act w
theorem Pan.t {v : AV} (hk : Pan w0 m0 N Q l ds v h') : Pan w0 m0 N (Exit.then K Q) l ds v h' := hk
theorem Pan.b {v : AV} {id : Nat} (hk : Pan w0 m0 N Q l ds v h') : Pan w0 m0 N (Exit.inBlock id Q) l ds v h' := hk
theorem Pan.fin {v : AV} {fn : Func} : Pan w0 m0 N (Fin P fn w0 m0 (.panic v) h') l [] v h' := fun _ _ he hv _ _ ha F => panic_leave he hv ha F
end
section
variable {P : Program} {w0 : Base} {m0 : Map} {N : Nat} {l l' : Fr} {ds : DefT} {h h' : AHeap} {Q : Exit → Act → World → Prop}
/-- the two parts, one behind the other; what is behind them stays named -/
theorem W.seqK {c : Code} (hc : Code.kind c = 1) (hk : ∀ K : Exit → Act → World → Prop, (∀ {ds : DefT} {l : Fr} {h : AHeap}, W P w0 m0 N (Code.p2 c) Q l ds h → Go w0 m0 N (K .normal) l ds h) →
    (∀ {id : Nat} {ds : DefT} {l : Fr} {h : AHeap}, Go w0 m0 N (Q (.exit id)) l ds h → Go w0 m0 N (K (.exit id)) l ds h) → (∀ {ds : DefT} {l : Fr} {h : AHeap}, Go w0 m0 N (Q .ret) l ds h → Go w0 m0 N (K .ret) l ds h) →
    (∀ {ds : DefT} {l : Fr} {v : AV} {h : AHeap}, Pan w0 m0 N Q l ds v h → Pan w0 m0 N K l ds v h) → W P w0 m0 N (Code.p1 c) K l ds h) : W P w0 m0 N c Q l ds h :=
  W.seq hc (hk _ (fun h => h) (fun h => h) (fun h => h) (fun h => h))
theorem W.blockK {c : Code} (hc : Code.kind c = 3) (hk : ∀ K : Exit → Act → World → Prop, (∀ {ds : DefT} {l : Fr} {h : AHeap}, Go w0 m0 N (Q .normal) l ds h → Go w0 m0 N (K .normal) l ds h) →
    (∀ {id : Nat} {ds : DefT} {l : Fr} {h : AHeap}, Nat.beq id (Code.num c) = true → Go w0 m0 N (Q .normal) l ds h → Go w0 m0 N (K (.exit id)) l ds h) →
    (∀ {id : Nat} {ds : DefT} {l : Fr} {h : AHeap}, Nat.beq id (Code.num c) = false → Go w0 m0 N (Q (.exit id)) l ds h → Go w0 m0 N (K (.exit id)) l ds h) → (∀ {ds : DefT} {l : Fr} {h : AHeap}, Go w0 m0 N (Q .ret) l ds h → Go w0 m0 N (K .ret) l ds h) →
    (∀ {ds : DefT} {l : Fr} {v : AV} {h : AHeap}, Pan w0 m0 N Q l ds v h → Pan w0 m0 N K l ds v h) → W P w0 m0 N (Code.p1 c) K l ds h) : W P w0 m0 N c Q l ds h :=
  W.block hc (hk _ (fun h => h) (fun e h => Go.bS e h) (fun e h => Go.bO e h) (fun h => h) (fun h => h))
theorem W.loopK {c : Code} (hc : Code.kind c = 4) (hk : ∀ (I : Act → World → Prop) (K : Exit → Act → World → Prop), (∀ {ds : DefT} {l : Fr} {h : AHeap}, W P w0 m0 N (Code.p1 c) K l ds h → Go w0 m0 N I l ds h) →
    (∀ {ds : DefT} {l : Fr} {h : AHeap}, Go w0 m0 N I l ds h → Go w0 m0 N (K .normal) l ds h) → (∀ {id : Nat} {ds : DefT} {l : Fr} {h : AHeap}, Go w0 m0 N (Q (.exit id)) l ds h → Go w0 m0 N (K (.exit id)) l ds h) →
    (∀ {ds : DefT} {l : Fr} {h : AHeap}, Go w0 m0 N (Q .ret) l ds h → Go w0 m0 N (K .ret) l ds h) → (∀ {ds : DefT} {l : Fr} {v : AV} {h : AHeap}, Pan w0 m0 N Q l ds v h → Pan w0 m0 N K l ds v h) →
    Go w0 m0 N I l ds h) : W P w0 m0 N c Q l ds h :=
  W.loop hc (hk _ _ (fun h => Go.round h) (fun h => h) (fun h => h) (fun h => h) (fun h => h))
def codeOf (fn : Func) : Code := fn.body.getD .skip
theorem val_ofH {o : OutT} {v : AV} {h1 h2 : AHeap} (e : h1 = h2) (hk : o = some (.val v, h2)) : o = some (.val v, h1) := by rw [e]; exact hk
/-- a struct or array value -/
def bldS (P : Program) (t : TypeId) (ps : List (Nat × AV)) : Option (List AV) := match zeroA P t with
  | some z => match P.underlying t with
    | some (.struct fs) => if fieldsOk P fs then fillA (structPlace P fs) z.cells ps else none
    | some (.array _ e) => if (P.info? e).isSome then fillA (fun i => some (i * P.cellsOf e, P.cellsOf e)) z.cells ps else none
    | _ => none
  | none => none
theorem bld_ok {o : OutT} {t : TypeId} {ps : List (Nat × AV)} {l : List AV} (ho : o = outAgg h (bldS P t ps)) (e : bldS P t ps = some l) : o = some (.val (.agg l), h) := by rw [ho, e]; rfl
/-- a slice of parts -/
def noPartsV : List (Nat × AV) → Bool
  | [] => true
  | _ => false
def bldSl (P : Program) (h : AHeap) (t : TypeId) (len : Nat) (ps : List (Nat × AV)) : OutT := match elemOf P t with
  | some e => match zeroA P e with
    | some z => match len with
      | 0 => if noPartsV ps = true then outNewS h e [] 0 (P.cellsOf e) else none
      | len + 1 => if (len + 1) * P.cellsOf e ≤ 1000000 ∧ 0 < P.cellsOf e then
          match fillA (fun i => some (i * P.cellsOf e, P.cellsOf e)) (List.replicate (len + 1) z.cells).flatten ps with
          | some cs => outNewS h e cs (len + 1) (P.cellsOf e)
          | none => none
        else none
    | none => none
  | none => none
def panK (x : AV) (h : AHeap) : R := match x with
  | .ifc t v => some (.panic (.ifc t v), h)
  | _ => none
theorem panK_some {x : AV} {r : ARes × AHeap} (e : panK x h = some r) : ∃ t v, x = .ifc t v ∧ some (ARes.panic (.ifc t v), h) = some r := by
  cases x <;> try (cases e; done)
  simp only [panK, Option.some.injEq] at e
  exact ⟨_, _, rfl, by rw [e]⟩
/-- does a row still have these cells? -/
def rowSame (h : AHeap) (id : Nat) (e : TypeId) (cells : List AV) : Bool := match h.get id with
  | some (.row n t e') => Nat.beq n cells.length && Nat.beq e' e && sameLO (t.take 0 n) cells
  | _ => false
def reLoad (P : Program) (h : AHeap) (t : TypeId) (x v : AV) : Bool := sameO (valOf (opLoad P h t (some x))) (some v)
/-! results -/
theorem res_nil {g : Nat → Option AV} : resGs P g h [] = some [] := rfl
theorem res_tmp {g : Nat → Option AV} {t : Nat} {v : AV} {rs : List ResultVar} {vs : List AV} (e : g t = some v) (k : resGs P g h rs = some vs) : resGs P g h (.tmp t :: rs) = some (v :: vs) := by
  simp only [resGs, resG, e, k]
theorem res_cell {g : Nat → Option AV} {t ty : Nat} {p v : AV} {rs : List ResultVar} {vs : List AV} (e : g t = some p) (e2 : opLoad P h ty (some p) = some (.val v, h)) (k : resGs P g h rs = some vs) : resGs P g h (.cell t ty :: rs) = some (v :: vs) := by
  simp only [resGs, resG, e, e2, k]
theorem leave_of {fn : Func} {rs : List ResultVar} {vs : List AV} {v : AV} (hrs : fn.results.toList = rs) (hv : resGs P l.get h rs = some vs) (hr : retA h (some vs) = some (.ret v, h)) :
    Go w0 m0 N (Fin P fn w0 m0 (.ret v) h .ret) l [] h := Go.leave (by rw [hrs, hv, hr])
theorem leaveN_of {fn : Func} {rs : List ResultVar} {vs : List AV} {v : AV} (hrs : fn.results.toList = rs) (hv : resGs P l.get h rs = some vs) (hr : retA h (some vs) = some (.ret v, h)) :
    Go w0 m0 N (Fin P fn w0 m0 (.ret v) h .normal) l [] h := Go.leaveN (by rw [hrs, hv, hr])
end
end
end Go.Proofs.Ytpnccmlajhhpdaa.Abs
