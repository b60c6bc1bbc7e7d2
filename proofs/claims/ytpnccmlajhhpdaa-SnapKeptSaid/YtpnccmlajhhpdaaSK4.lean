/- What snapKept_proved stands on, part 4 of 8. -/
import Derived.Test.YtpnccmlajhhpdaaSK3
import Derived.ChangeArms
import Derived.OpenShut
import Derived.WideShapes
import Derived.ChangeShapes
import Derived.ChangeAt
namespace Go.Proofs.Ytpnccmlajhhpdaa.Abs
noncomputable section
open Go.RowKit
abbrev R := Option (ARes × AHeap)
abbrev Bytes := List UInt8
def strA (l : Bytes) : AV := .str l.length (enc l)
def obind {α : Type} (x : Option α) (k : α → R) : R := match x with
 | some a => k a
 | none => none
def lett {α : Type} (v : α) (k : α → R) : R := k v
def ifB (b : Bool) (x y : R) : R := match b with
 | true => x
 | false => y
theorem ifB_t {x y r : R} (h : ifB true x y = r) : x = r := h
theorem ifB_f {x y r : R} (h : ifB false x y = r) : y = r := h
theorem ifB_true (x y : R) : ifB true x y = x := rfl
theorem ifB_false (x y : R) : ifB false x y = y := rfl
def outK (x : OutT) (k : AV → AHeap → R) : R := match x with
 | some (.val v, h) => k v h
 | _ => none
def callK (x : R) (k : AV → AHeap → R) : R := match x with
 | some (.ret v, h) => k v h
 | some (.panic v, h) => some (.panic v, h)
 | none => none
def callN (x : R) (k : AV → AHeap → R) : R := match x with
 | some (.ret v, h) => k v h
 | _ => none
def chk (b : Bool) (k : R) : R := match b with
 | true => k
 | false => none
def iterR {σ : Type} (z : σ) (f : σ → σ) : Nat → σ
 | 0 => z
 | n + 1 => f (iterR z f n)
theorem ret_inj {r r' : ARes} {h h' : AHeap} (e : some (r, h) = some (r', h')) : r = r' ∧ h = h' := by cases e; exact ⟨rfl, rfl⟩
theorem obind_eq {α : Type} {x : Option α} {a : α} (k : α → R) (e : x = some a) : obind x k = k a := by rw [e]; rfl
theorem lett_eq {α : Type} (v : α) (k : α → R) : lett v k = k v := rfl
theorem obind_val {α : Type} (a : α) (k : α → R) : obind (some a) k = k a := rfl
theorem outK_val (v : AV) (h : AHeap) (k : AV → AHeap → R) : outK (some (.val v, h)) k = k v h := rfl
theorem callN_ret (v : AV) (h : AHeap) (k : AV → AHeap → R) : callN (some (.ret v, h)) k = k v h := rfl
theorem obind_some {α : Type} {x : Option α} {k : α → R} {r : ARes × AHeap} (h : obind x k = some r) : ∃ a, x = some a ∧ k a = some r := by
 cases x with
 | none => cases h
 | some a => exact ⟨a, rfl, h⟩
theorem lett_some {α : Type} {v : α} {k : α → R} {r : ARes × AHeap} (h : lett v k = some r) : ∃ x, x = v ∧ k x = some r := ⟨v, rfl, h⟩
theorem outK_some {x : OutT} {k : AV → AHeap → R} {r : ARes × AHeap} (h : outK x k = some r) : ∃ v h', x = some (.val v, h') ∧ k v h' = some r := by
 unfold outK at h
 split at h
 ·exact ⟨_, _, rfl, h⟩
 ·cases h
theorem callN_some {x : R} {k : AV → AHeap → R} {r : ARes × AHeap} (h : callN x k = some r) : ∃ v h', x = some (.ret v, h') ∧ k v h' = some r := by
 unfold callN at h
 split at h
 ·exact ⟨_, _, rfl, h⟩
 ·cases h
theorem callK_some {x : R} {k : AV → AHeap → R} {r : ARes × AHeap} (h : callK x k = some r) : (∃ v h', x = some (.ret v, h') ∧ k v h' = some r) ∨ ∃ v h', x = some (.panic v, h') ∧ r = (.panic v, h') := by
 unfold callK at h
 split at h
 ·exact .inl ⟨_, _, rfl, h⟩
 ·simp only [Option.some.injEq] at h
  exact .inr ⟨_, _, rfl, h.symm⟩
 ·cases h
theorem chk_some {b : Bool} {k : R} {r : ARes × AHeap} (h : chk b k = some r) : b = true ∧ k = some r := by
 cases b with
 | true => exact ⟨rfl, h⟩
 | false => cases h
theorem val_of {α : Type} {o : OutT} {h : AHeap} {x y : α} (K : α → AV) (e : x = y) (hk : o = some (.val (K y), h)) : o = some (.val (K x), h) := by rw [e]; exact hk
def avInt (k : IntKind) : AV → Option Int
 | .int k' n => match decide (k' = k) with
  | true => some n
  | false => none
 | _ => none
def avBool : AV → Option Bool
 | .bool b => some b
 | _ => none
def avAgg : AV → Option (List AV)
 | .agg l => some l
 | _ => none
def dec : Nat → Nat → Bytes
 | 0, _ => []
 | n + 1, v => UInt8.ofNat (v % 256) :: dec n (v / 256)
def avStr : AV → Option Bytes
 | .str n v => match Nat.beq (enc (dec n v)) v with
  | true => some (dec n v)
  | false => none
 | _ => none
theorem dec_length : ∀ n v, (dec n v).length = n
 | 0, _ => rfl
 | n + 1, v => by rw [dec, List.length_cons, dec_length n]
theorem dec_enc : ∀ l : Bytes, dec l.length (enc l) = l
 | [] => rfl
 | b :: l => by
  rw [List.length_cons, enc_cons, dec]
  have h1 : (b.toNat + 256 * enc l) % 256 = b.toNat := by have := b.toNat_lt; omega
  have h2 : (b.toNat + 256 * enc l) / 256 = enc l := by have := b.toNat_lt; omega
  rw [h1, h2, dec_enc l]
  simp
theorem avInt_some {k : IntKind} {x : AV} {n : Int} (h : avInt k x = some n) : x = .int k n := by
 cases x <;> try (cases h; done)
 simp only [avInt] at h
 split at h
 ·rename_i hk
  have := of_decide_eq_true hk
  subst this
  simp only [Option.some.injEq] at h; rw [h]
 ·cases h
theorem avBool_some {x : AV} {b : Bool} (h : avBool x = some b) : x = .bool b := by
 cases x <;> try (cases h; done)
 simp only [avBool, Option.some.injEq] at h; rw [h]
theorem avAgg_some {x : AV} {l : List AV} (h : avAgg x = some l) : x = .agg l := by
 cases x <;> try (cases h; done)
 simp only [avAgg, Option.some.injEq] at h; rw [h]
theorem avStr_some {x : AV} {l : Bytes} (h : avStr x = some l) : x = strA l := by
 cases x <;> try (cases h; done)
 rename_i n v
 simp only [avStr] at h
 split at h
 ·rename_i e
  simp only [Option.some.injEq] at h; subst h
  rw [strA, dec_length, Nat.eq_of_beq_eq_true e]
 ·cases h
theorem avInt_int (k : IntKind) (n : Int) : avInt k (.int k n) = some n := by simp [avInt]
theorem avBool_bool (b : Bool) : avBool (.bool b) = some b := rfl
theorem avAgg_agg (l : List AV) : avAgg (.agg l) = some l := rfl
theorem avStr_str (l : Bytes) : avStr (strA l) = some l := by
 simp only [avStr, strA, dec_enc, Nat.beq_refl]
def idxS (l : Bytes) : Int → Option Int
 | .ofNat i => match l[i]? with
  | some b => some (b.toNat : Int)
  | none => none
 | _ => none
def sliceS (l : Bytes) : Int → Int → Option Bytes
 | .ofNat a, .ofNat b => match Nat.ble a b && Nat.ble b l.length with
  | true => some ((l.drop a).take (b - a))
  | false => none
 | _, _ => none
def addS (a b : Bytes) : Option Bytes := match Nat.ble (a.length + b.length) 1000000000 with
 | true => some (a ++ b)
 | false => none
def eqS (a b : Bytes) : Bool := Nat.beq a.length b.length && Nat.beq (enc a) (enc b)
theorem eqS_eq (a b : Bytes) : eqS a b = (a == b) := enc_eq a b
def lenS (l : Bytes) : Int := (l.length : Int)
section
variable {P : Program} {h : AHeap} {t : TypeId}
theorem index_str {k : IntKind} {l : Bytes} {i c : Int} (hu : P.underlying t = some .string) (e : idxS l i = some c) : opIndex P h t (some (strA l)) (some (.int k i)) = some (.val (.int .u8 c), h) := by
 cases i with
 | negSucc i => cases e
 | ofNat i =>
  simp only [idxS] at e
  split at e
  ·rename_i b hb
   simp only [Option.some.injEq] at e; subst e
   obtain ⟨h1, h2⟩ := List.getElem?_eq_some_iff.1 hb
   have : opIndex P h t (some (strA l)) (some (.int k (.ofNat i))) = (match P.underlying t with
    | some .string => if Nat.blt i l.length = true then some (.val (.int .u8 ((enc l / 256 ^ i % 256 : Nat) : Int)), h) else none
    | _ => none) := rfl
   rw [this, hu]
   simp only [Nat.blt, Nat.ble_eq_true_of_le (show i.succ ≤ l.length from h1), if_true]
   rw [enc_get l i h1, h2]
  ·cases e
theorem slice_str {l r : Bytes} {a b : Int} {A B : Option AV} (hu : P.underlying t = some .string)
  (hlo : (∃ k, A = some (.int k a)) ∨ (A = none ∧ a = 0)) (hhi : (∃ k, B = some (.int k b)) ∨ (B = none ∧ b = lenS l)) (e : sliceS l a b = some r) :
  sliceA P h t (strA l) A B = some (.val (strA r), h) := by
 unfold sliceS at e
 split at e
 ·rename_i a b
  split at e
  ·rename_i hab
   rw [Bool.and_eq_true] at hab
   obtain ⟨h1, h2⟩ := hab
   simp only [Option.some.injEq] at e; subst e
   have h3 := Nat.le_of_ble_eq_true h1
   have h4 := Nat.le_of_ble_eq_true h2
   have hA2 : boundA A 0 = some a := by
    rcases hlo with ⟨k, rfl⟩ | ⟨rfl, h0⟩
    ·rfl
    ·have : a = 0 := by have h1 : (a : Int) = 0 := h0; omega
     rw [this]; rfl
   have hB2 : boundA B l.length = some b := by
    rcases hhi with ⟨k, rfl⟩ | ⟨rfl, h0⟩
    ·rfl
    ·have : b = l.length := by have h1 : (b : Int) = (l.length : Int) := h0; omega
     rw [this]; rfl
   simp only [sliceA, strA, hA2, hB2, sliceStr, hu, h1, h2, and_self, if_true]
   have hle : ((l.drop a).take (b - a)).length = b - a := by rw [List.length_take, List.length_drop]; omega
   rw [hle, enc_take, enc_drop]
  ·cases e
 ·cases e
theorem add_str {l r s : Bytes} {lit : Bool} (e : addS l r = some s) : opBin P h .add t lit (some (strA l)) (some (strA r)) = some (.val (strA s), h) := by
 unfold addS at e
 split at e
 ·rename_i hb
  simp only [Option.some.injEq] at e; subst e
  simp only [opBin, strA, binA, binStr, hb, if_true, outV, List.length_append, enc_append]
 ·cases e
def quoI (k : IntKind) (a b : Int) : Option Int := if b = 0 then none else some (k.wrap (a.tdiv b))
def remI (_ : IntKind) (a b : Int) : Option Int := if b = 0 then none else some (a.tmod b)
def shlI (k : IntKind) (a b : Int) : Option Int := if b < 0 then none else some (k.wrap (a * 2 ^ (min b.toNat k.bits)))
def shrI (k : IntKind) (a b : Int) : Option Int := if b < 0 then none else some (a.fdiv (2 ^ (min b.toNat k.bits)))
def orI (k : IntKind) (a b : Int) : Int := k.wrap (BitVec.ofInt k.bits a ||| BitVec.ofInt k.bits b).toNat
def xorI (k : IntKind) (a b : Int) : Int := k.wrap (BitVec.ofInt k.bits a ^^^ BitVec.ofInt k.bits b).toNat
def comI (k : IntKind) (n : Int) : Int := k.wrap (BitVec.ofInt k.bits (if k.signed then -1 else k.max) ^^^ BitVec.ofInt k.bits n).toNat
theorem quo_int {k : IntKind} {a b c : Int} {lit : Bool} (e : quoI k a b = some c) : opBin P h .quo t lit (some (.int k a)) (some (.int k b)) = some (.val (.int k c), h) := by
 unfold quoI at e
 split at e
 ·cases e
 ·rename_i hb
  simp only [Option.some.injEq] at e; subst e
  simp only [opBin, binA, binII, binInt, if_neg hb, if_true, outV]
theorem rem_int {k : IntKind} {a b c : Int} {lit : Bool} (e : remI k a b = some c) : opBin P h .rem t lit (some (.int k a)) (some (.int k b)) = some (.val (.int k c), h) := by
 unfold remI at e
 split at e
 ·cases e
 ·rename_i hb
  simp only [Option.some.injEq] at e; subst e
  simp only [opBin, binA, binII, binInt, if_neg hb, if_true, outV]
theorem shl_int {k k' : IntKind} {a b c : Int} {lit : Bool} (e : shlI k a b = some c) : opBin P h .shl t lit (some (.int k a)) (some (.int k' b)) = some (.val (.int k c), h) := by
 unfold shlI at e
 split at e
 ·cases e
 ·rename_i hb
  simp only [Option.some.injEq] at e; subst e
  simp only [opBin, binA, binII, binShift, if_neg hb, outV]
theorem shr_int {k k' : IntKind} {a b c : Int} {lit : Bool} (e : shrI k a b = some c) : opBin P h .shr t lit (some (.int k a)) (some (.int k' b)) = some (.val (.int k c), h) := by
 unfold shrI at e
 split at e
 ·cases e
 ·rename_i hb
  simp only [Option.some.injEq] at e; subst e
  simp only [opBin, binA, binII, binShift, if_neg hb, outV]
def ldRow (h : AHeap) (n : Nat) : AV → Option (List AV)
 | .ptr b o => rowGet h b o n
 | _ => none
def ldCell (h : AHeap) : AV → Option AV
 | .ptr b o => cellGet h b o
 | .gptr b o => match h.get b with
  | some (.glob t) => t.get o
  | _ => none
 | _ => none
def stRow (h : AHeap) (n : Nat) (l : List AV) : AV → Option AHeap
 | .ptr b o => match Nat.beq l.length n with
  | true => rowPut h b o l
  | false => none
 | _ => none
def fldP (off : Nat) : AV → Option AV
 | .ptr b o => some (.ptr b (o + off))
 | _ => none
def nilC : AV → Option AV
 | .ptr b o => some (.ptr b o)
 | .fn f a b => some (.fn f a b)
 | .ifc t v => some (.ifc t v)
 | _ => none
def idxP (sz : Nat) : AV → Int → Option AV
 | .sl b o n _, .ofNat i => match Nat.blt i n with
  | true => some (.ptr b (o + i * sz))
  | false => none
 | _, _ => none
def idxA (n sz : Nat) : AV → Int → Option AV
 | .ptr b o, .ofNat i => match Nat.blt i n with
  | true => some (.ptr b (o + i * sz))
  | false => none
 | .gptr b o, .ofNat i => match Nat.blt i n with
  | true => some (.gptr b (o + i * sz))
  | false => none
 | _, _ => none
def lenL : AV → Option Int
 | .sl _ _ n _ => some (n : Int)
 | .esl => some 0
 | .nsl => some 0
 | _ => none
def extT (i : Nat) : AV → Option AV
 | .tup l => l[i]?
 | _ => none
def newP (h : AHeap) : AV := .ptr h.next 0
def newH (h : AHeap) (e : TypeId) (l : List AV) : AHeap := h.new (rowOf l e)
theorem load_row {x : AV} {n : Nat} {l : List AV} (ha : aggO P t = some true) (hn : P.cellsOf t = n) (e : ldRow h n x = some l) : opLoad P h t (some x) = some (.val (.agg l), h) := by
 cases x <;> try (cases e; done)
 simp only [ldRow] at e
 simp only [opLoad, ha, hn, e]
theorem load_cell {x v : AV} (ha : aggO P t = some false) (e : ldCell h x = some v) : opLoad P h t (some x) = some (.val v, h) := by
 cases x <;> try (cases e; done)
 ·simp only [ldCell] at e
  simp only [opLoad, ha, e, outV]
 ·simp only [ldCell] at e
  split at e
  ·rename_i hg
   simp only [opLoad, ha, hg, cellGet, e, outV]
  ·cases e
theorem store_row {x v : AV} {n : Nat} {h' : AHeap} (hi : (P.info? t).isSome = true) (hn : P.cellsOf t = n) (e : stRow h n v.cells x = some h') : opStore P h t (some x) (some v) = some (.skip, h') := by
 cases x <;> try (cases e; done)
 simp only [stRow] at e
 split at e
 ·rename_i hl
  have hl := Nat.eq_of_beq_eq_true hl
  simp only [opStore, hn, hl, hi, and_self, if_true, e]
 ·cases e
theorem field_ptr {x v : AV} {s : TypeId} {f off : Nat} (hf : (match P.underlying s with
  | some (.struct fs) => match fs[f]? with
   | some g => Nat.blt 0 (P.cellsOf g.type) && Nat.beq g.offset off
   | none => false
  | _ => false) = true) (e : fldP off x = some v) : opFieldAddr P h s f (some x) = some (.val v, h) := by
 cases x <;> try (cases e; done)
 simp only [fldP, Option.some.injEq] at e; subst e
 split at hf
 ·rename_i fs hu
  split at hf
  ·rename_i g hg
   rw [Bool.and_eq_true] at hf
   simp only [opFieldAddr, hu, hg, hf.1, if_true, Nat.eq_of_beq_eq_true hf.2]
  ·cases hf
 ·cases hf
theorem nil_chk {x v : AV} (e : nilC x = some v) : opNil h (some x) = some (.val v, h) := by
 cases x <;> first | (cases e; done) | (simp only [nilC, Option.some.injEq] at e; subst e; rfl)
theorem index_row {x v : AV} {k : IntKind} {i : Int} {e' : TypeId} {sz : Nat} (hu : elemOf P t = some e') (hi : (P.info? e').isSome = true) (hn : P.cellsOf e' = sz) (e : idxP sz x i = some v) : opIndexAddr P h t (some x) (some (.int k i)) = some (.val v, h) := by
 cases x <;> try (cases e; done)
 cases i with
 | negSucc i => cases e
 | ofNat i =>
  simp only [idxP] at e
  split at e
  ·rename_i hb
   simp only [Option.some.injEq] at e; subst e
   simp only [opIndexAddr, hu, hb, hi, hn, and_self, if_true]
  ·cases e
theorem index_arr {x v : AV} {k : IntKind} {i : Int} {e' : TypeId} {n sz : Nat} (hu : P.underlying t = some (.array n e')) (hi : (P.info? e').isSome = true) (hn : P.cellsOf e' = sz) (e : idxA n sz x i = some v) : opIndexAddr P h t (some x) (some (.int k i)) = some (.val v, h) := by
 cases x <;> try (cases e; done)
 all_goals
  cases i with
  | negSucc i => cases e
  | ofNat i =>
   simp only [idxA] at e
   split at e
   ·rename_i hb
    simp only [Option.some.injEq] at e; subst e
    simp only [opIndexAddr, hu, hb, hi, hn, and_self, if_true]
   ·cases e
theorem len_row {x : AV} {n : Int} {e' : TypeId} (hu : P.underlying t = some (.slice e')) (e : lenL x = some n) : opLen P h t x = some (.val (.int .i64 n), h) := by
 cases x <;> first | (cases e; done) | (simp only [lenL, Option.some.injEq] at e; subst e; simp only [opLen, hu])
theorem extract_tup {x v : AV} {i : Nat} (e : extT i x = some v) : opExtract h i (some x) = some (.val v, h) := by
 cases x <;> try (cases e; done)
 simp only [extT] at e
 simp only [opExtract, e, outV]
theorem eq_other {x y : AV} {b lit : Bool} (hx : (match x with | .int _ _ | .str _ _ | .nifc => false | _ => true) = true) (e : eqOther P t x y = some b) : opBin P h .eql t lit (some x) (some y) = some (.val (.bool b), h) := by
 cases x <;> first | (cases hx; done) | (simp only [opBin, binA, binOther, e, outV])
theorem neq_other {x y : AV} {b lit : Bool} (hx : (match x with | .int _ _ | .str _ _ | .nifc => false | _ => true) = true) (e : eqOther P t x y = some b) : opBin P h .neq t lit (some x) (some y) = some (.val (.bool (!b)), h) := by
 cases x <;> first | (cases hx; done) | (simp only [opBin, binA, binOther, e, outV])
end
section
variable {P : Program} {w0 : Base} {m0 : Map} {N : Nat} {l l' : Fr} {ds : DefT} {h h' : AHeap} {Q : Exit → Act → World → Prop} {K : Act → World → Prop}
theorem Go.bS {id id' : Nat} (e : Nat.beq id' id = true) (hk : Go w0 m0 N (Q .normal) l ds h) : Go w0 m0 N (Exit.inBlock id Q (.exit id')) l ds h := fun m act w he ha F => by
 have := Nat.eq_of_beq_eq_true e
 show if id' = id then _ else _
 rw [if_pos this]
 exact hk m act w he ha F
theorem Go.bO {id id' : Nat} (e : Nat.beq id' id = false) (hk : Go w0 m0 N (Q (.exit id')) l ds h) : Go w0 m0 N (Exit.inBlock id Q (.exit id')) l ds h := fun m act w he ha F => by
 have : ¬ id' = id := fun h => by subst h; rw [Nat.beq_refl] at e; cases e
 show if id' = id then _ else _
 rw [if_neg this]
 exact hk m act w he ha F
def Pan (w0 : Base) (m0 : Map) (N : Nat) (Q : Exit → Act → World → Prop) (l : Fr) (ds : DefT) (v : AV) (h' : AHeap) : Prop := ∀ v' m, Ext m0 m → Rel m v v' → ∀ act w, RelAct m N ⟨l.tree, ds⟩ act → Fits w0 m h' w → Q (.panic [{ v := v', recovered := false }]) act w
theorem Pan.t {v : AV} (hk : Pan w0 m0 N Q l ds v h') : Pan w0 m0 N (Exit.then K Q) l ds v h' := hk
theorem Pan.b {v : AV} {id : Nat} (hk : Pan w0 m0 N Q l ds v h') : Pan w0 m0 N (Exit.inBlock id Q) l ds v h' := hk
theorem Pan.fin {v : AV} {fn : Func} : Pan w0 m0 N (Fin P fn w0 m0 (.panic v) h') l [] v h' := fun _ _ he hv _ _ ha F => panic_leave he hv ha F
end
section
variable {P : Program} {w0 : Base} {m0 : Map} {N : Nat} {l l' : Fr} {ds : DefT} {h h' : AHeap} {Q : Exit → Act → World → Prop}
theorem W.seqK {c : Code} (hc : Code.kind c = 1) (hk : ∀ K : Exit → Act → World → Prop, (∀ {ds : DefT} {l : Fr} {h : AHeap}, W P w0 m0 N (Code.p2 c) Q l ds h → Go w0 m0 N (K .normal) l ds h) →
  (∀ {id : Nat} {ds : DefT} {l : Fr} {h : AHeap}, Go w0 m0 N (Q (.exit id)) l ds h → Go w0 m0 N (K (.exit id)) l ds h) → (∀ {ds : DefT} {l : Fr} {h : AHeap}, Go w0 m0 N (Q .ret) l ds h → Go w0 m0 N (K .ret) l ds h) →
  (∀ {ds : DefT} {l : Fr} {v : AV} {h : AHeap}, Pan w0 m0 N Q l ds v h → Pan w0 m0 N K l ds v h) → W P w0 m0 N (Code.p1 c) K l ds h) : W P w0 m0 N c Q l ds h :=
 W.seq hc (hk _ (fun h => h) (fun h => h) (fun h => h) (fun h => h))
theorem W.blockK {c : Code} (hc : Code.kind c = 3) (hk : ∀ K : Exit → Act → World → Prop, (∀ {ds : DefT} {l : Fr} {h : AHeap}, Go w0 m0 N (Q .normal) l ds h → Go w0 m0 N (K .normal) l ds h) →
  (∀ {id : Nat} {ds : DefT} {l : Fr} {h : AHeap}, Nat.beq id (Code.num c) = true → Go w0 m0 N (Q .normal) l ds h → Go w0 m0 N (K (.exit id)) l ds h) →
  (∀ {id : Nat} {ds : DefT} {l : Fr} {h : AHeap}, Nat.beq id (Code.num c) = false → Go w0 m0 N (Q (.exit id)) l ds h → Go w0 m0 N (K (.exit id)) l ds h) → (∀ {ds : DefT} {l : Fr} {h : AHeap}, Go w0 m0 N (Q .ret) l ds h → Go w0 m0 N (K .ret) l ds h) →
  (∀ {ds : DefT} {l : Fr} {v : AV} {h : AHeap}, Pan w0 m0 N Q l ds v h → Pan w0 m0 N K l ds v h) → W P w0 m0 N (Code.p1 c) K l ds h) : W P w0 m0 N c Q l ds h :=
 W.block hc (hk _ (fun h => h) (fun e h => Go.bS e h) (fun e h => Go.bO e h) (fun h => h) (fun h => h))
theorem W.loopK {c : Code} (hc : Code.kind c = 4) (hk : ∀ (I : Act → World → Prop) (K : Exit → Act → World → Prop), (∀ {ds : DefT} {l : Fr} {h : AHeap}, W P w0 m0 N (Code.p1 c) K l ds h → Go w0 m0 N I l ds h) →
  (∀ {ds : DefT} {l : Fr} {h : AHeap}, Go w0 m0 N I l ds h → Go w0 m0 N (K .normal) l ds h) → (∀ {id : Nat} {ds : DefT} {l : Fr} {h : AHeap}, Go w0 m0 N (Q (.exit id)) l ds h → Go w0 m0 N (K (.exit id)) l ds h) →
  (∀ {ds : DefT} {l : Fr} {h : AHeap}, Go w0 m0 N (Q .ret) l ds h → Go w0 m0 N (K .ret) l ds h) → (∀ {ds : DefT} {l : Fr} {v : AV} {h : AHeap}, Pan w0 m0 N Q l ds v h → Pan w0 m0 N K l ds v h) →
  Go w0 m0 N I l ds h) : W P w0 m0 N c Q l ds h :=
 W.loop hc (hk _ _ (fun h => Go.round h) (fun h => h) (fun h => h) (fun h => h) (fun h => h))
def codeOf (fn : Func) : Code := fn.body.getD .skip
theorem val_ofH {o : OutT} {v : AV} {h1 h2 : AHeap} (e : h1 = h2) (hk : o = some (.val v, h2)) : o = some (.val v, h1) := by rw [e]; exact hk
def bldS (P : Program) (t : TypeId) (ps : List (Nat × AV)) : Option (List AV) := match zeroA P t with
 | some z => match P.underlying t with
  | some (.struct fs) => if fieldsOk P fs then fillA (structPlace P fs) z.cells ps else none
  | some (.array _ e) => if (P.info? e).isSome then fillA (fun i => some (i * P.cellsOf e, P.cellsOf e)) z.cells ps else none
  | _ => none
 | none => none
theorem bld_ok {o : OutT} {t : TypeId} {ps : List (Nat × AV)} {l : List AV} (ho : o = outAgg h (bldS P t ps)) (e : bldS P t ps = some l) : o = some (.val (.agg l), h) := by rw [ho, e]; rfl
def noPartsV : List (Nat × AV) → Bool
 | [] => true
 | _ => false
def bldSl (P : Program) (h : AHeap) (t : TypeId) (len : Nat) (ps : List (Nat × AV)) : OutT := match elemOf P t with
 | some e => match zeroA P e with
  | some z => match len with
   | 0 => if noPartsV ps = true then outNewS h e [] 0 (P.cellsOf e) else none
   | len + 1 => if (len + 1) * P.cellsOf e ≤ 1000000 ∧ 0 < P.cellsOf e then
     match fillA (fun i => some (i * P.cellsOf e, P.cellsOf e)) (List.replicate (len + 1) z.cells).flatten ps with
     | some cs => outNewS h e cs (len + 1) (P.cellsOf e)
     | none => none
    else none
  | none => none
 | none => none
def panK (x : AV) (h : AHeap) : R := match x with
 | .ifc t v => some (.panic (.ifc t v), h)
 | _ => none
theorem panK_some {x : AV} {r : ARes × AHeap} (e : panK x h = some r) : ∃ t v, x = .ifc t v ∧ some (ARes.panic (.ifc t v), h) = some r := by
 cases x <;> try (cases e; done)
 simp only [panK, Option.some.injEq] at e
 exact ⟨_, _, rfl, by rw [e]⟩
def reLoad (P : Program) (h : AHeap) (t : TypeId) (x v : AV) : Bool := sameO (valOf (opLoad P h t (some x))) (some v)
theorem res_nil {g : Nat → Option AV} : resGs P g h [] = some [] := rfl
theorem res_tmp {g : Nat → Option AV} {t : Nat} {v : AV} {rs : List ResultVar} {vs : List AV} (e : g t = some v) (k : resGs P g h rs = some vs) : resGs P g h (.tmp t :: rs) = some (v :: vs) := by
 simp only [resGs, resG, e, k]
theorem res_cell {g : Nat → Option AV} {t ty : Nat} {p v : AV} {rs : List ResultVar} {vs : List AV} (e : g t = some p) (e2 : opLoad P h ty (some p) = some (.val v, h)) (k : resGs P g h rs = some vs) : resGs P g h (.cell t ty :: rs) = some (v :: vs) := by
 simp only [resGs, resG, e, e2, k]
theorem leave_of {fn : Func} {rs : List ResultVar} {vs : List AV} {v : AV} (hrs : fn.results.toList = rs) (hv : resGs P l.get h rs = some vs) (hr : retA h (some vs) = some (.ret v, h)) :
  Go w0 m0 N (Fin P fn w0 m0 (.ret v) h .ret) l [] h := Go.leave (by rw [hrs, hv, hr])
theorem leaveN_of {fn : Func} {rs : List ResultVar} {vs : List AV} {v : AV} (hrs : fn.results.toList = rs) (hv : resGs P l.get h rs = some vs) (hr : retA h (some vs) = some (.ret v, h)) :
  Go w0 m0 N (Fin P fn w0 m0 (.ret v) h .normal) l [] h := Go.leaveN (by rw [hrs, hv, hr])
end
end
end Go.Proofs.Ytpnccmlajhhpdaa.Abs
namespace Go.Proofs.Ytpnccmlajhhpdaa.Abs
noncomputable section
open Go.RowKit
structure Above (h h' : AHeap) : Prop where
 next : h.next ≤ h'.next
 ex : h'.ex = h.ex
 get : ∀ b, b < h.next → h'.get b = h.get b
theorem Above.trans {a b c : AHeap} (h : Above a b) (k : Above b c) : Above a c := ⟨Nat.le_trans h.next k.next, k.ex.trans h.ex, fun i hi => (k.get i (Nat.lt_of_lt_of_le hi h.next)).trans (h.get i hi)⟩
theorem Above.new {a h : AHeap} (k : Above a h) (o : AObj) : Above a (h.new o) := ⟨Nat.le_succ_of_le k.next, k.ex, fun b hb => (get_new_other o (by have := k.next; omega)).trans (k.get b hb)⟩
theorem Above.newH {a h : AHeap} (k : Above a h) (e : TypeId) (l : List AV) : Above a (newH h e l) := k.new _
theorem Above.put {a h : AHeap} (k : Above a h) {b : Nat} (hb : a.next ≤ b) (o : AObj) : Above a (h.put b o) := ⟨k.next, k.ex, fun i hi => (get_put_other o (by omega)).trans (k.get i hi)⟩
mutual
def AV.lo (n : Nat) : AV → Bool
 | .bool _ | .int _ _ | .str _ _ | .nilp | .nsl | .esl | .nmp | .nfn | .nifc => true
 | .ptr b _ => Nat.blt b n
 | .sl b _ _ _ => Nat.blt b n
 | .mp b => Nat.blt b n
 | .fn _ a b => AV.loL n a && AV.loL n b
 | .ifc _ v => AV.lo n v
 | .agg l => AV.loL n l
 | .tup l => AV.loL n l
 | .yld b => Nat.blt b n
 | .mrk _ => false
 | .gptr _ _ => true
def AV.loL (n : Nat) : List AV → Bool
 | [] => true
 | x :: l => AV.lo n x && AV.loL n l
end
theorem ext_back {m m' : Map} (hx : Ext m m') {b : Nat} {p : Nat × Nat × Nat} (hb : b < m.length) (h : m'[b]? = some (some p)) : m[b]? = some (some p) := by
 cases e : m[b]? with
 | none => rw [List.getElem?_eq_none_iff] at e; omega
 | some q =>
  cases q with
  | none => rw [hx.virt b e] at h; cases h
  | some q => rw [hx.le b q e] at h; exact h
theorem blt_lt' {a b : Nat} (h : Nat.blt a b = true) : a < b := Nat.le_of_ble_eq_true h
mutual
theorem Rel.back {m m' : Map} (hx : Ext m m') : ∀ {x : AV} {y : Value}, Rel m' x y → x.lo m.length = true → Rel m x y
 | _, _, .bool b, _ => .bool b
 | _, _, .int k n, _ => .int k n
 | _, _, .str s hn hv, _ => .str s hn hv
 | _, _, .ptr e, h => .ptr (ext_back hx (blt_lt' (by simpa only [AV.lo] using h)) e)
 | _, _, .nilp, _ => .nilp
 | _, _, .sl e a b, h => .sl (ext_back hx (blt_lt' (by simpa only [AV.lo] using h)) e) a b
 | _, _, .nsl, _ => .nsl
 | _, _, .esl a c, _ => .esl a c
 | _, _, .mp e, h => .mp (ext_back hx (blt_lt' (by simpa only [AV.lo] using h)) e)
 | _, _, .nmp, _ => .nmp
 | _, _, .fn a b, h => by
  simp only [AV.lo, Bool.and_eq_true] at h
  exact .fn (RelL.back hx a h.1) (RelL.back hx b h.2)
 | _, _, .nfn, _ => .nfn
 | _, _, .ifc a, h => by
  simp only [AV.lo] at h
  exact .ifc (Rel.back hx a h)
 | _, _, .nifc, _ => .nifc
 | _, _, .agg a, h => by
  simp only [AV.lo] at h
  exact .agg (RelL.back hx a h)
 | _, _, .tup a, h => by
  simp only [AV.lo] at h
  exact .tup (RelL.back hx a h)
 | _, _, .yld e, h => .yld (ext_back hx (blt_lt' (by simpa only [AV.lo] using h)) e)
 | _, _, .gptr g o, _ => .gptr g o
theorem RelL.back {m m' : Map} (hx : Ext m m') : ∀ {x : List AV} {y : List Value}, RelL m' x y → AV.loL m.length x = true → RelL m x y
 | _, _, .nil, _ => .nil
 | _, _, .cons a b, h => by
  simp only [AV.loL, Bool.and_eq_true] at h
  exact .cons (Rel.back hx a h.1) (RelL.back hx b h.2)
end
theorem lt_blt {a b : Nat} (h : a < b) : Nat.blt a b = true := Nat.ble_eq_true_of_le h
theorem some_lt {m : Map} {b : Nat} {p : Option (Nat × Nat × Nat)} (h : m[b]? = some p) : b < m.length := (List.getElem?_eq_some_iff.1 h).1
mutual
theorem Rel.lo {m : Map} : ∀ {x : AV} {y : Value}, Rel m x y → x.lo m.length = true
 | _, _, .bool b => rfl
 | _, _, .int k n => rfl
 | _, _, .str s hn hv => rfl
 | _, _, .ptr e => lt_blt (some_lt e)
 | _, _, .nilp => rfl
 | _, _, .sl e a b => lt_blt (some_lt e)
 | _, _, .nsl => rfl
 | _, _, .esl a c => rfl
 | _, _, .mp e => lt_blt (some_lt e)
 | _, _, .nmp => rfl
 | _, _, .fn a b => by
  simp only [AV.lo, Bool.and_eq_true]
  exact ⟨RelL.lo a, RelL.lo b⟩
 | _, _, .nfn => rfl
 | _, _, .ifc a => by
  simp only [AV.lo]
  exact Rel.lo a
 | _, _, .nifc => rfl
 | _, _, .agg a => by
  simp only [AV.lo]
  exact RelL.lo a
 | _, _, .tup a => by
  simp only [AV.lo]
  exact RelL.lo a
 | _, _, .yld e => lt_blt (some_lt e)
 | _, _, .gptr _ _ => rfl
theorem RelL.lo {m : Map} : ∀ {x : List AV} {y : List Value}, RelL m x y → AV.loL m.length x = true
 | _, _, .nil => rfl
 | _, _, .cons a b => by
  simp only [AV.loL, Bool.and_eq_true]
  exact ⟨Rel.lo a, RelL.lo b⟩
end
section
variable {w0 : Base} {w w' : World} {m m' : Map} {h h' : AHeap}
theorem RelM.back (hx : Ext m m') : ∀ {es : List (AV × AV)} {es' es2 : List MapEntry}, RelM m' es es' → RelM m es es2 → RelM m es es' := by
 intro es
 induction es with
 | nil => intro es' es2 h _; cases h; exact .nil
 | cons p es ih =>
  intro es' es2 h k
  cases h with | cons a b c =>
  cases k with | cons a2 b2 c2 =>
  exact .cons (a.back hx a2.lo) (b.back hx b2.lo) (ih c c2)
theorem Fits.drop (F : Fits w0 m h w) (hx : Ext m m') (F' : Fits w0 m' h' w') (ha : Above h h') : Fits w0 m h w' where
 below := F'.below
 floor := F'.floor
 pin k o hk := ⟨(F'.pin k o hk).1, fun b o2 s z hb ho hm => (F'.pin k o hk).2 b o2 s z (by rw [ha.get b (F.lt_next hb)]; exact hb) ho (hx.le b _ hm)⟩
 len := F.len
 fresh := F.fresh
 wf := F.wf
 row b n t e g s z hb hm := by
  have hlt := F.lt_next hb
  have hb' : h'.get b = some (.row n t e) := by rw [ha.get b hlt]; exact hb
  obtain ⟨h1, c, fz, a1, a2, a3, a4, a5, a6⟩ := F'.row b n t e g s z hb' (hx.le b _ hm)
  obtain ⟨_, c0, fz0, b1, b2, b3, b4, b5, b6⟩ := F.row b n t e g s z hb hm
  refine ⟨h1, c, fz, a1, a2, a3, a4, a5, fun i hi => ?_⟩
  obtain ⟨x, y, e1, e2, e3, e4⟩ := a6 i hi
  obtain ⟨x0, y0, f1, f2, f3, f4⟩ := b6 i hi
  rw [e1] at f1
  simp only [Option.some.injEq] at f1
  subst f1
  exact ⟨x, y, e1, e2, e3.back hx f3.lo, e4⟩
 map b es g s z hb hm := by
  have hlt := F.lt_next hb
  have hb' : h'.get b = some (.map es) := by rw [ha.get b hlt]; exact hb
  obtain ⟨h1, h2, h3, es', ck, a1, a2⟩ := F'.map b es g s z hb' (hx.le b _ hm)
  obtain ⟨_, _, _, es2, ck2, b1, b2⟩ := F.map b es g s z hb hm
  exact ⟨h1, h2, h3, es', ck, a1, a2.back hx b2⟩
 glob := F.glob
 obj b q g s z hb hm := by
  have hlt := F.lt_next hb
  have hb' : h'.get b = some (.obj q) := by rw [ha.get b hlt]; exact hb
  obtain ⟨h1, h2, h3, hk⟩ := F'.obj b q g s z hb' (hx.le b _ hm)
  obtain ⟨_, _, _, hk0⟩ := F.obj b q g s z hb hm
  refine ⟨h1, h2, h3, ?_⟩
  cases q with
  | dfr => exact hk
  | shut => exact hk
  | loop r =>
   obtain ⟨r', a1, a2, a3, a4, a5, a6, a7, a8, a9⟩ := hk
   obtain ⟨r0, b1, b2, b3, b4, b5, b6, b7, b8, b9⟩ := hk0
   refine ⟨r', a1, a2, a3, a4, fun t v hv => ?_, a6, a7, a8, ?_⟩
   ·obtain ⟨v', c1, c2⟩ := a5 t v hv
    obtain ⟨v0, d1, d2⟩ := b5 t v hv
    exact ⟨v', c1, c2.back hx d2.lo⟩
   ·have := hx.le _ _ b9
    rw [a9] at this
    rw [b9, ← this]
 exact b n t e g s z hb hm he := by
  have hlt := F.lt_next hb
  have hb' : h'.get b = some (.row n t e) := by rw [ha.get b hlt]; exact hb
  exact F'.exact b n t e g s z hb' (hx.le b _ hm) (by rw [ha.ex]; exact he)
 ro := F.ro
 sep := F.sep
theorem RetOK.drop {r : ARes} {e : Ending} (F : Fits w0 m h w) (hr : RetOK w0 m h' r e w') (ha : Above h h') (hv : r.val.lo h.next = true) : RetOK w0 m h r e w' := by
 obtain ⟨m', hx, F', hres⟩ := hr
 refine ⟨m, Ext.refl m, F.drop hx F' ha, ?_⟩
 rw [← F.len] at hv
 cases r with
 | ret v => obtain ⟨v', e1, e2⟩ := hres; exact ⟨v', e1, e2.back hx hv⟩
 | panic v => obtain ⟨v', e1, e2⟩ := hres; exact ⟨v', e1, e2.back hx hv⟩
end
theorem Says.drop {P : Program} {f : FuncId} {args : List AV} {h h' : AHeap} {r : ARes} (hs : Says P f args h r h') (ha : Above h h') (hv : r.val.lo h.next = true) : Says P f args h r h :=
 fun w0 m w args' hra F => Calls.keep (hs w0 m w args' hra F) fun _ _ hr => hr.drop F ha hv
mutual
theorem AV.scal_lo (n : Nat) : ∀ (x : AV), x.scal = true → x.lo n = true
 | .bool _, _ => rfl
 | .int _ _, _ => rfl
 | .str _ _, _ => rfl
 | .nilp, _ => rfl
 | .nsl, _ => rfl
 | .nmp, _ => rfl
 | .nfn, _ => rfl
 | .nifc, _ => rfl
 | .fn _ a b, h => by
  simp only [AV.scal, Bool.and_eq_true] at h
  simp only [AV.lo, Bool.and_eq_true]
  exact ⟨AV.scalL_lo n a h.1, AV.scalL_lo n b h.2⟩
 | .ifc _ v, h => by
  simp only [AV.scal] at h
  simp only [AV.lo]
  exact AV.scal_lo n v h
 | .agg l, h => by
  simp only [AV.scal] at h
  simp only [AV.lo]
  exact AV.scalL_lo n l h
 | .tup l, h => by
  simp only [AV.scal] at h
  simp only [AV.lo]
  exact AV.scalL_lo n l h
 | .ptr _ _, h => by simp [AV.scal] at h
 | .sl _ _ _ _, h => by simp [AV.scal] at h
 | .esl, h => by simp [AV.scal] at h
 | .mp _, h => by simp [AV.scal] at h
theorem AV.scalL_lo (n : Nat) : ∀ (l : List AV), AV.scalL l = true → AV.loL n l = true
 | [], _ => rfl
 | x :: l, h => by
  simp only [AV.scalL, Bool.and_eq_true] at h
  simp only [AV.loL, Bool.and_eq_true]
  exact ⟨AV.scal_lo n x h.1, AV.scalL_lo n l h.2⟩
end
open Classical in
def gcR (h : AHeap) (x : R) : R := match x with
 | some (r, h') => if Above h h' ∧ r.val.lo h.next = true then some (r, h) else some (r, h')
 | none => none
def gcF (s : FnT) : FnT := fun args h => gcR h (s args h)
theorem gcF_holds {P : Program} {f : FuncId} {s : FnT} (hs : Holds P f s) : Holds P f (gcF s) := by
 intro args h r h' e
 unfold gcF gcR at e
 split at e
 ·rename_i r2 h2 e2
  split at e
  ·rename_i hc
   simp only [Option.some.injEq, Prod.mk.injEq] at e
   obtain ⟨rfl, rfl⟩ := e
   exact (hs _ _ _ _ e2).drop hc.1 hc.2
  ·simp only [Option.some.injEq, Prod.mk.injEq] at e
   obtain ⟨rfl, rfl⟩ := e
   exact hs _ _ _ _ e2
 ·cases e
theorem gcR_same {h h' : AHeap} {r : ARes} (ha : Above h h') (hv : r.val.lo h.next = true) : gcR h (some (r, h')) = some (r, h) := by
 simp only [gcR, ha, hv, and_self, if_true]
theorem gcR_scal {h h' : AHeap} {r : ARes} (ha : Above h h') (hv : r.val.scal = true) : gcR h (some (r, h')) = some (r, h) := gcR_same ha (AV.scal_lo _ _ hv)
theorem gcR_self {h : AHeap} {r : ARes} : gcR h (some (r, h)) = some (r, h) := by
 simp only [gcR]
 split <;> rfl
theorem gcR_some {h h' : AHeap} {r : ARes} (hv : r.val.lo h.next = false) : gcR h (some (r, h')) = some (r, h') := by
 simp only [gcR, hv, and_false, if_false, Bool.false_eq_true]
def iterW (f : CallF → CallF) : Nat → CallF
 | 0 => fun _ _ _ => none
 | d + 1 => f (iterW f d)
theorem iterW_ok {P : Program} {f : CallF → CallF} (hf : ∀ call, SaysAll P call → SaysAll P (f call)) : ∀ d, SaysAll P (iterW f d)
 | 0 => fun _ _ _ _ _ h => by cases h
 | d + 1 => hf _ (iterW_ok hf d)
theorem rel_str (m : Map) (s : ByteArray) : Rel m (strA s.data.toList) (.string s) := .str s rfl rfl
end
end Go.Proofs.Ytpnccmlajhhpdaa.Abs
namespace Go.Proofs.Ytpnccmlajhhpdaa.Abs
noncomputable section
open Go.RowKit
theorem wrap_signed {k : IntKind} (hk : k.signed = true) (x : Int) : k.wrap x = if x % (2 ^ k.bits : Int) ≥ (2 ^ (k.bits - 1) : Int) then x % (2 ^ k.bits : Int) - (2 ^ k.bits : Int) else x % (2 ^ k.bits : Int) := by
 simp [IntKind.wrap, hk]
theorem wrap_unsigned {k : IntKind} (hk : k.signed = false) (x : Int) : k.wrap x = x % (2 ^ k.bits : Int) := by
 simp [IntKind.wrap, hk]
theorem wrap_i64 {x : Int} (h1 : -9223372036854775808 ≤ x) (h2 : x < 9223372036854775808) : IntKind.i64.wrap x = x := by
 rw [wrap_signed rfl, show ((2 : Int) ^ IntKind.i64.bits) = 18446744073709551616 from rfl, show ((2 : Int) ^ (IntKind.i64.bits - 1)) = 9223372036854775808 from rfl]
 split <;> omega
theorem wrap_u8_mod (x : Int) : IntKind.u8.wrap x = x % 256 := wrap_unsigned rfl x
theorem wrap_u64_mod (x : Int) : IntKind.u64.wrap x = x % 18446744073709551616 := wrap_unsigned rfl x
theorem wrap_u32_mod (x : Int) : IntKind.u32.wrap x = x % 4294967296 := wrap_unsigned rfl x
theorem idxS_nat {l : Bytes} {i : Nat} (h : i < l.length) : idxS l (i : Int) = some ((l[i]).toNat : Int) := by
 show (match l[i]? with | some b => some (b.toNat : Int) | none => none) = _
 rw [List.getElem?_eq_getElem h]
theorem sliceS_nat {l : Bytes} {a b : Nat} (h1 : a ≤ b) (h2 : b ≤ l.length) : sliceS l (a : Int) (b : Int) = some ((l.drop a).take (b - a)) := by
 show (match Nat.ble a b && Nat.ble b l.length with | true => some ((l.drop a).take (b - a)) | false => none) = _
 rw [Nat.ble_eq_true_of_le h1, Nat.ble_eq_true_of_le h2]
 rfl
theorem lenS_nat (l : Bytes) : lenS l = (l.length : Int) := rfl
theorem eqS_true {a b : Bytes} : eqS a b = true ↔ a = b := by rw [eqS_eq]; exact beq_iff_eq
theorem eqS_false {a b : Bytes} : eqS a b = false ↔ a ≠ b := by rw [eqS_eq]; simp
theorem get_newH (h : AHeap) (e : TypeId) (l : List AV) : (newH h e l).get h.next = some (rowOf l e) := get_new_same _
theorem extT_0 (x : AV) (l : List AV) : extT 0 (.tup (x :: l)) = some x := rfl
theorem extT_1 (x y : AV) (l : List AV) : extT 1 (.tup (x :: y :: l)) = some y := rfl
theorem extT_2 (x y z : AV) (l : List AV) : extT 2 (.tup (x :: y :: z :: l)) = some z := rfl
theorem blt_self (n : Nat) : Nat.blt n n = false := by
 cases h : Nat.blt n n with
 | false => rfl
 | true => exact absurd (Nat.le_of_ble_eq_true h) (Nat.not_succ_le_self n)
theorem idxP_sl {sz b o n k : Nat} {i : Nat} (h : i < n) : idxP sz (.sl b o n k) (i : Int) = some (.ptr b (o + i * sz)) := by
 show (match Nat.blt i n with | true => some (AV.ptr b (o + i * sz)) | false => none) = _
 rw [show Nat.blt i n = true from Nat.ble_eq_true_of_le h]
end
end Go.Proofs.Ytpnccmlajhhpdaa.Abs
namespace Go.Proofs.Ytpnccmlajhhpdaa.Abs
noncomputable section
open Go.RowKit
section
variable {P : Program} {w0 : Base} {m0 : Map} {N : Nat} {l l' : Fr} {ds : DefT} {h h' h1 : AHeap} {r : ARes} {u u' : Option AV}
theorem WL.dfr {Q : Exit → Act → World → Prop} {ops : Array Oper} {i : Nat} {d : Option Nat} {f : FuncId} {args cap : List AV} (hd : dstN N ops i = some d) (hw : wantAt ops l.get i = some true) (hop : opAt P l.eval ops i h = some (.defer f args cap, h'))
  (hk : WL P w0 m0 N ops (i + 1) Q (l.put d (.tup [])) ((f, args, cap) :: ds) h') : WL P w0 m0 N ops i Q l ds h := by
 obtain ⟨o, ho, hok, rfl⟩ := dstN_ok hd
 refine WL.step (v := .tup []) (d := o.dst) (ds' := (f, args, cap) :: ds) (call := noneCall) ho hok noneCall_ok ?_ hk
 have hw : wantedT ops l.get o.guard = some true := by simpa [wantAt, ho] using hw
 have hop : opA P l.eval o h = some (.defer f args cap, h') := by simpa [opAt, ho] using hop
 simp only [stepA, Fr.fget_tree, hw, Fr.eval_tree, hop, stepOut, stepPut]
 rw [← Fr.put_tree]
end
end
end Go.Proofs.Ytpnccmlajhhpdaa.Abs
namespace Go.Proofs.Ytpnccmlajhhpdaa.Abs
noncomputable section
open Go.RowKit
section
variable {P : Program} {h : AHeap} {t u e : TypeId} {sz : Nat}
theorem take_rowOf (l : List AV) : ∀ (n o : Nat), o + n ≤ l.length → (T.put .e 0 l).take o n = some ((l.drop o).take n)
 | 0, o, _ => by simp [T.take]
 | n + 1, o, ho => by
  have h1 : (T.put .e 0 l).get o = some (l[o]'(by omega)) := by
   rw [rowOf_get]; exact List.getElem?_eq_getElem (by omega)
  simp only [T.take, h1, take_rowOf l n (o + 1) (by omega)]
  rw [List.drop_eq_getElem_cons (by omega : o < l.length), List.take_succ_cons]
def notInt (P : Program) (u : TypeId) : Bool := match P.underlying u with
 | some (.int _) => false
 | some _ => true
 | none => false
def fitB (P : Program) (e B : Nat) : Bool := match P.info? e with
 | some i => Nat.beq i.bytes B && Nat.ble 1 i.size && i.zero.any (fun z => z.cells.size == i.size)
 | none => false
theorem bytesFit_big {B k : Nat} (hf : fitB P e B = true) (h1 : k * B ≤ 140737488355328) (h2 : k ≤ 140737488355328) : bytesFit P e k = true := by
 unfold fitB at hf
 unfold bytesFit
 split at hf
 ·rename_i i hi
  simp only [Bool.and_eq_true] at hf
  have hb := Nat.eq_of_beq_eq_true hf.1.1
  simp only [hi, Bool.and_eq_true]
  exact ⟨⟨⟨Nat.ble_eq_true_of_le (by rw [hb]; exact h1), Nat.ble_eq_true_of_le h2⟩, hf.1.2⟩, hf.2⟩
 ·cases hf
theorem bytesFit_of {B k : Nat} (hf : fitB P e B = true) (h1 : k * B ≤ 1000000000) (h2 : k ≤ 1000000000) : bytesFit P e k = true := bytesFit_big hf (Nat.le_trans h1 (by decide)) (Nat.le_trans h2 (by decide))
theorem append_new {x : AV} {n : Nat} {news : List AV} (he : elemOf P t = some e) (hu : notInt P u = true) (hsz : P.cellsOf e = sz) (hx : lenA x = some (n + 1)) (hf : firstA h sz (n + 1) x = some news) (hfit : bytesFit P e (n + 1) = true) (h1 : news.all AV.one = true) (hex : memB e h.ex = false) :
  opAppend P h t u .nsl x = some (.val (.sl h.next 0 (n + 1) sz), newH h e news) := by
 unfold notInt at hu
 unfold opAppend
 have hl : lenA .nsl = some 0 := rfl
 split at hu
 ·cases hu
 ·rename_i ud hni heq
  simp only [he, hl, hx, heq, hsz, hf, Nat.zero_add, hfit, h1, hex, and_self, if_true]
  rfl
 ·cases hu
theorem append_more {b o m : Nat} {x : AV} {n : Nat} {cs news : List AV} (he : elemOf P t = some e) (hu : notInt P u = true) (hsz : P.cellsOf e = sz) (hx : lenA x = some (n + 1)) (hf : firstA h sz (n + 1) x = some news) (hfit : bytesFit P e (m + (n + 1)) = true) (h1 : news.all AV.one = true) (hex : memB e h.ex = false)
  (hcs : rowGet h b o (m * sz) = some cs) (hty : rowType h b = some e) :
  opAppend P h t u (.sl b o m sz) x = some (.val (.sl h.next 0 (m + (n + 1)) sz), (h.put b .dead).new (rowOf (cs ++ news) e)) := by
 unfold notInt at hu
 unfold opAppend
 have hl : lenA (.sl b o m sz) = some m := rfl
 split at hu
 ·cases hu
 ·rename_i ud hni heq
  simp only [he, hl, hx, heq, hsz, hf, hfit, h1, hex, and_self, if_true]
  simp only [appendA, if_true, appendRow, hcs, hty, Nat.beq_refl]
 ·cases hu
end
def bytesC (l : Bytes) : List AV := l.map fun x => AV.int .u8 (x.toNat : Int)
theorem bytesC_length (l : Bytes) : (bytesC l).length = l.length := List.length_map ..
theorem bytesC_append (a b : Bytes) : bytesC (a ++ b) = bytesC a ++ bytesC b := List.map_append ..
theorem bytesC_one (l : Bytes) : (bytesC l).all AV.one = true := by
 rw [List.all_eq_true]
 intro x hx
 obtain ⟨y, _, rfl⟩ := List.mem_map.1 hx
 rfl
structure Ab (lo : Nat) (h h' : AHeap) : Prop where
 next : h.next ≤ h'.next
 ex : h'.ex = h.ex
 get : ∀ b, b < lo → h'.get b = h.get b
theorem Ab.refl (lo : Nat) (h : AHeap) : Ab lo h h := ⟨Nat.le_refl _, rfl, fun _ _ => rfl⟩
theorem Ab.trans {lo : Nat} {a b c : AHeap} (h : Ab lo a b) (k : Ab lo b c) : Ab lo a c := ⟨Nat.le_trans h.next k.next, k.ex.trans h.ex, fun i hi => (k.get i hi).trans (h.get i hi)⟩
theorem Ab.put {lo : Nat} {a h : AHeap} (k : Ab lo a h) {b : Nat} (hb : lo ≤ b) (o : AObj) : Ab lo a (h.put b o) := ⟨k.next, k.ex, fun i hi => (get_put_other o (by omega)).trans (k.get i hi)⟩
theorem Ab.new {lo : Nat} {a h : AHeap} (k : Ab lo a h) (hb : lo ≤ h.next) (o : AObj) : Ab lo a (h.new o) := ⟨Nat.le_succ_of_le k.next, k.ex, fun i hi => (get_new_other o (by omega)).trans (k.get i hi)⟩
theorem Above.ab {h h' : AHeap} (k : Above h h') {lo : Nat} (hl : lo ≤ h.next) : Ab lo h h' := ⟨k.next, k.ex, fun b hb => k.get b (by omega)⟩
end
end Go.Proofs.Ytpnccmlajhhpdaa.Abs
namespace Go.Proofs.Ytpnccmlajhhpdaa.Abs
noncomputable section
open Go.RowKit
section
variable {P : Program} {h : AHeap} {b k : Nat} {t : T AV} {e : TypeId}
def ptrSized (P : Program) (s : TypeId) : Bool := match P.underlying s with
 | some (.pointer t) => match P.info? t with
  | some i => !(Nat.beq i.size 0)
  | none => false
 | _ => false
def isUnsafe (P : Program) (d : TypeId) : Bool := match P.underlying d with
 | some .unsafePointer => true
 | _ => false
def ptrTo (P : Program) (d u : TypeId) : Bool := match P.underlying d with
 | some (.pointer t) => Nat.beq t u && (P.info? u).isSome
 | _ => false
theorem conv_unsafe {s d : TypeId} (hs : ptrSized P s = true) (hd : isUnsafe P d = true) (hb : h.get b = some (.row (k + 1) t e)) : opConv P h s d (some (.ptr b 0)) = some (.val (.ptr b 0), h) := by
 simp only [opConv, convPtr]
 unfold ptrSized at hs
 unfold isUnsafe at hd
 cases h1 : P.underlying s with
 | none => simp only [h1] at hs; cases hs
 | some us =>
  cases us <;> simp only [h1, reduceCtorEq] at hs
  rename_i pt
  cases h2 : P.info? pt with
  | none => simp only [h2, reduceCtorEq] at hs
  | some i =>
   simp only [h2] at hs
   cases h3 : P.underlying d with
   | none => simp only [h3] at hd; cases hd
   | some ud =>
    cases ud <;> simp only [h3, reduceCtorEq] at hd
    simp only [hb, h2]
    rw [if_pos ⟨Nat.ble_eq_true_of_le (by omega), by simpa using hs⟩]
theorem conv_safe {s d u : TypeId} (hs : isUnsafe P s = true) (hd : ptrTo P d u = true) (hb : h.get b = some (.row k t e)) (hx : memB e h.ex = true) (hl : liesAt P P.depth e (k / P.cellsOf e) 0 u 1 = true) : opConv P h s d (some (.ptr b 0)) = some (.val (.ptr b 0), h) := by
 simp only [opConv, convPtr]
 unfold ptrTo at hd
 unfold isUnsafe at hs
 cases h1 : P.underlying s with
 | none => simp only [h1] at hs; cases hs
 | some us =>
  cases us <;> simp only [h1, reduceCtorEq] at hs
  cases h3 : P.underlying d with
  | none => simp only [h3] at hd; cases hd
  | some ud =>
   cases ud <;> simp only [h3, reduceCtorEq] at hd
   rename_i pt
   simp only [Bool.and_eq_true] at hd
   have h4 := Nat.eq_of_beq_eq_true hd.1
   subst h4
   simp only [hb]
   rw [if_pos ⟨hx, hl, hd.2⟩]
theorem bytesA_bytesC : ∀ l : Bytes, ∃ v, bytesA (bytesC l) = some (l.length, v) ∧ AV.str l.length v = strA l
 | [] => ⟨0, rfl, rfl⟩
 | x :: l => by
  obtain ⟨v, h1, h2⟩ := bytesA_bytesC l
  refine ⟨x.toNat + 256 * v, ?_, ?_⟩
  ·show bytesA (.int .u8 (Int.ofNat x.toNat) :: bytesC l) = _
   have hx : Nat.blt x.toNat 256 = true := Nat.ble_eq_true_of_le (by have := x.toNat_lt; omega)
   simp only [bytesA, h1, hx, if_true, List.length_cons]
  ·have h3 : v = enc l := by
    simp only [strA, AV.str.injEq] at h2
    exact h2.2
   rw [h3]
   rfl
theorem eql_self {ty u : TypeId} {o : Nat} {lit : Bool} (hd : ptrTo P ty u = true) : opBin P h .eql ty lit (some (.ptr b o)) (some (.ptr b o)) = some (.val (.bool true), h) := by
 unfold ptrTo at hd
 cases h3 : P.underlying ty with
 | none => simp only [h3] at hd; cases hd
 | some ud =>
  cases ud <;> simp only [h3, reduceCtorEq] at hd
  simp only [Bool.and_eq_true] at hd
  have h4 := Nat.eq_of_beq_eq_true hd.1
  subst h4
  have h5 : samePtr P ty b o (.ptr b o) = some true := by
   simp only [samePtr, h3]
   rw [if_pos ⟨Nat.beq_refl b, Nat.beq_refl o, hd.2⟩]
  show outV h (match samePtr P ty b o (.ptr b o) with | some b => some (.bool b) | none => none) = _
  rw [h5]
  rfl
theorem neq_self {ty u : TypeId} {o : Nat} {lit : Bool} (hd : ptrTo P ty u = true) : opBin P h .neq ty lit (some (.ptr b o)) (some (.ptr b o)) = some (.val (.bool false), h) := by
 unfold ptrTo at hd
 cases h3 : P.underlying ty with
 | none => simp only [h3] at hd; cases hd
 | some ud =>
  cases ud <;> simp only [h3, reduceCtorEq] at hd
  simp only [Bool.and_eq_true] at hd
  have h4 := Nat.eq_of_beq_eq_true hd.1
  subst h4
  have h5 : samePtr P ty b o (.ptr b o) = some true := by
   simp only [samePtr, h3]
   rw [if_pos ⟨Nat.beq_refl b, Nat.beq_refl o, hd.2⟩]
  show outV h (match samePtr P ty b o (.ptr b o) with | some b => some (.bool (!b)) | none => none) = _
  rw [h5]
  rfl
theorem same_nsl : sameO (some AV.nsl) (some .nsl) = true := by simp [sameO, AV.same]
theorem same_sl (c o n sz : Nat) : sameO (some (AV.sl c o n sz)) (some (.sl c o n sz)) = true := by simp [sameO, AV.same]
theorem reLoad_cell {ty : TypeId} {x v : AV} (ha : aggO P ty = some false) (e : ldCell h x = some v) (hs : sameO (some v) (some v) = true) : reLoad P h ty x v = true := by
 unfold reLoad
 rw [load_cell ha e]
 exact hs
def ptrCell (P : Program) (pt e : TypeId) : Bool := match P.underlying pt with
 | some (.pointer t) => Nat.beq e t && Nat.beq (P.cellsOf t) 1
 | _ => false
theorem unsafeStr_row {pt U : TypeId} {l : Bytes} {kk : IntKind} {c : Nat} (hp : ptrCell P pt U = true) (hl : l ≠ []) (hn : l.length ≤ 1000000000) (hr : rowGet h c 0 l.length = some (bytesC l)) (ht : rowType h c = some U) :
  opUnsafeStr P h pt (.ptr c 0) (.int kk (l.length : Int)) = some (.val (strA l), h.put c .dead) := by
 cases l with
 | nil => exact absurd rfl hl
 | cons x l =>
  obtain ⟨v, h1, h2⟩ := bytesA_bytesC (x :: l)
  show opUnsafeStr P h pt (.ptr c 0) (.int kk (.ofNat (l.length + 1))) = _
  simp only [opUnsafeStr]
  unfold ptrCell at hp
  cases h3 : P.underlying pt with
  | none => simp only [h3] at hp; cases hp
  | some ud =>
   cases ud <;> simp only [h3, reduceCtorEq] at hp
   simp only [Bool.and_eq_true] at hp
   simp only [List.length_cons] at hr hn h1 h2
   simp only [hr, ht]
   rw [if_pos ⟨hp.1, hp.2, Nat.ble_eq_true_of_le hn⟩]
   simp only [h1, h2]
end
end
end Go.Proofs.Ytpnccmlajhhpdaa.Abs
namespace Go.Proofs.Ytpnccmlajhhpdaa.Abs
noncomputable section
open Go.RowKit
theorem strCells_enc : ∀ l : Bytes, strCells l.length (enc l) = bytesC l
 | [] => rfl
 | x :: l => by
  have hx := x.toNat_lt
  show AV.int .u8 (((enc (x :: l)) % 256 : Nat) : Int) :: strCells l.length (enc (x :: l) / 256) = _
  rw [show enc (x :: l) % 256 = x.toNat from by rw [enc_cons]; omega, show enc (x :: l) / 256 = enc l from by rw [enc_cons]; omega, strCells_enc l]
  rfl
section
variable {P : Program} {h : AHeap} {TB U8 lo b : Nat} {l : Bytes}
theorem firstA_str (l2 : Bytes) : firstA h 1 l2.length (strA l2) = some (bytesC l2) := by
 show (if Nat.ble l2.length l2.length = true ∧ 1 = 1 then some (strCells l2.length (enc l2)) else none) = _
 rw [if_pos ⟨Nat.ble_eq_true_of_le (Nat.le_refl _), rfl⟩, strCells_enc]
theorem rowGet_newH_other {e : TypeId} {cs : List AV} {c o n : Nat} (hc : c < h.next) : rowGet (newH h e cs) c o n = rowGet h c o n := by
 unfold rowGet newH
 rw [get_new_other _ (by omega)]
end
end
end Go.Proofs.Ytpnccmlajhhpdaa.Abs
namespace Go.Proofs.Ytpnccmlajhhpdaa.Abs
noncomputable section
open Go.RowKit
section
variable {P : Program} {h : AHeap} {U8 lo : Nat} {l : Bytes} {t u : TypeId} {x v : AV}
def isStr (P : Program) (d : TypeId) : Bool := match P.underlying d with
 | some .string => true
 | _ => false
def isBytes (P : Program) (s : TypeId) : Bool := match P.underlying s with
 | some (.slice e) => match P.underlying e with
  | some (.int .u8) => true
  | _ => false
 | _ => false
end
end
end Go.Proofs.Ytpnccmlajhhpdaa.Abs
namespace Go.Proofs.Ytpnccmlajhhpdaa.Abs
noncomputable section
open Go.RowKit Go.WideShapes
def Keeps (h h' : AHeap) : Prop := h.next ≤ h'.next ∧ h'.ex = h.ex ∧ ∀ b o, h.get b = some o → h'.get b = some o
theorem Keeps.refl (h : AHeap) : Keeps h h := ⟨Nat.le_refl _, rfl, fun _ _ k => k⟩
theorem Keeps.trans {a b c : AHeap} (h : Keeps a b) (k : Keeps b c) : Keeps a c := ⟨Nat.le_trans h.1 k.1, k.2.1.trans h.2.1, fun i o x => k.2.2 i o (h.2.2 i o x)⟩
def RoOnly (h : AHeap) : Prop := ∀ b o, h.get b = some o → o.alive = false
def consec (P : Program) : List Field → Nat → Option Nat
 | [], o => some o
 | f :: fs, o => match Nat.beq f.offset o with
  | true => consec P fs (o + P.cellsOf f.type)
  | false => none
def plainT (P : Program) : Nat → TypeId → Bool
 | 0, _ => false
 | n + 1, t => match P.underlying t with
  | some .bool => Nat.beq (P.cellsOf t) 1
  | some (.int _) => Nat.beq (P.cellsOf t) 1
  | some .string => Nat.beq (P.cellsOf t) 1
  | some (.struct fs) => (match consec P fs.toList 0 with
   | some z => Nat.beq z (P.cellsOf t)
   | none => false) && fs.toList.all (fun f => plainT P n f.type)
  | some (.array k e) => Nat.beq (k * P.cellsOf e) (P.cellsOf t) && plainT P n e
  | some (.slice e) => Nat.beq (P.cellsOf t) 1 && Nat.blt 0 (P.cellsOf e) && plainT P n e
  | _ => false
def RowLike (h : AHeap) (b : Nat) (l : List AV) : Prop := ∃ t, (h.get b = some (.ro t) ∨ ∃ n e, h.get b = some (.row n t e)) ∧ ∀ i, i < l.length → t.get i = l[i]?
theorem RowLike.same {h h' : AHeap} {b : Nat} {l : List AV} (k : RowLike h b l) (hk : ∀ o, h.get b = some o → h'.get b = some o) : RowLike h' b l := by
 obtain ⟨t, h1, h2⟩ := k
 rcases h1 with h1 | ⟨n, e, h1⟩
 ·exact ⟨t, .inl (hk _ h1), h2⟩
 ·exact ⟨t, .inr ⟨n, e, hk _ h1⟩, h2⟩
def Slc (N : Nat) (h : AHeap) (sz : Nat) (x : AV) (ls : List (List AV)) : Prop :=
 (∀ l ∈ ls, l.length = sz) ∧ ((ls = [] ∧ (x = .nsl ∨ x = .esl)) ∨ ∃ b, ls ≠ [] ∧ b < N ∧ x = .sl b 0 ls.length sz ∧ RowLike h b ls.flatten)
def Plain (P : Program) (N : Nat) (h : AHeap) : Nat → TypeId → List AV → Prop
 | 0, _, _ => False
 | n + 1, t, l => match P.underlying t with
  | some .bool => ∃ b, l = [.bool b]
  | some (.int k) => ∃ z, l = [.int k z] ∧ (Lit.int k z).wf = true
  | some .string => ∃ s : Bytes, l = [strA s] ∧ s.length ≤ reachBytes
  | some (.struct fs) => ∃ ls : List (List AV), l = ls.flatten ∧ ls.length = fs.size ∧ ∀ (i : Nat) f li, fs[i]? = some f → ls[i]? = some li → Plain P N h n f.type li
  | some (.array k e) => ∃ ls : List (List AV), l = ls.flatten ∧ ls.length = k ∧ ∀ li ∈ ls, Plain P N h n e li
  | some (.slice e) => ∃ (x : AV) (ls : List (List AV)), l = [x] ∧ Slc N h (P.cellsOf e) x ls ∧ ls.length * P.bytesOf e ≤ reachBytes ∧ ∀ li ∈ ls, Plain P N h n e li
  | _ => False
theorem Slc.keep {N N' : Nat} {h h' : AHeap} {sz : Nat} {x : AV} {ls : List (List AV)} (hs : Slc N h sz x ls) (hN : N ≤ N') (hk : ∀ b o, b < N → h.get b = some o → h'.get b = some o) : Slc N' h' sz x ls := by
 obtain ⟨h0, h1⟩ := hs
 refine ⟨h0, ?_⟩
 rcases h1 with h1 | ⟨b, h1, h2, h3, h4⟩
 ·exact .inl h1
 ·exact .inr ⟨b, h1, Nat.lt_of_lt_of_le h2 hN, h3, h4.same fun o ho => hk _ _ h2 ho⟩
theorem Plain.keep {P : Program} {N N' : Nat} {h h' : AHeap} (hN : N ≤ N') (hk : ∀ b o, b < N → h.get b = some o → h'.get b = some o) : ∀ (n : Nat) (t : TypeId) (l : List AV), Plain P N h n t l → Plain P N' h' n t l
 | 0, _, _, hp => hp
 | n + 1, t, l, hp => by
  simp only [Plain] at hp ⊢
  split at hp
  ·exact hp
  ·exact hp
  ·exact hp
  ·obtain ⟨ls, h1, h2, h3⟩ := hp
   exact ⟨ls, h1, h2, fun i f li a b => Plain.keep hN hk n _ _ (h3 i f li a b)⟩
  ·obtain ⟨ls, h1, h2, h3⟩ := hp
   exact ⟨ls, h1, h2, fun li a => Plain.keep hN hk n _ _ (h3 li a)⟩
  ·obtain ⟨x, ls, h1, h2, h3, h4⟩ := hp
   exact ⟨x, ls, h1, h2.keep hN hk, h3, fun li a => Plain.keep hN hk n _ _ (h4 li a)⟩
  ·exact hp
theorem list_of' {α : Type} {Q : Nat → α → Prop} : ∀ n, (∀ i, i < n → ∃ x, Q i x) → ∃ l : List α, l.length = n ∧ ∀ i x, l[i]? = some x → Q i x
 | 0, _ => ⟨[], rfl, fun i x h => by simp at h⟩
 | n + 1, h => by
  obtain ⟨l, hl, hq⟩ := list_of' n (fun i hi => h i (by omega))
  obtain ⟨x, hx⟩ := h n (by omega)
  refine ⟨l ++ [x], by simp [hl], fun i y hi => ?_⟩
  by_cases hin : i < n
  ·rw [List.getElem?_append_left (by omega)] at hi; exact hq i y hi
  ·have hlt := (List.getElem?_eq_some_iff.1 hi).1
   have : i = n := by simp at hlt; omega
   subst this
   rw [List.getElem?_append_right (by omega)] at hi
   simp [hl] at hi
   exact hi ▸ hx
theorem flat_consec {P : Program} {cs : List Value} : ∀ (fl : List Field) (o : Nat), consec P fl o = some cs.length → (fl.map fun f => (f.type, (cs.drop f.offset).take (P.cellsOf f.type))).flatMap (·.2) = cs.drop o
 | [], o, h => by
  simp only [consec, Option.some.injEq] at h
  subst h
  simp
 | f :: fl, o, h => by
  unfold consec at h
  split at h
  ·rename_i e
   have e := Nat.eq_of_beq_eq_true e
   rw [List.map_cons, List.flatMap_cons, flat_consec fl _ h, e, ← List.drop_drop]
   exact List.take_append_drop _ _
  ·cases h
theorem flat_range {cs : List Value} {e : TypeId} {sz : Nat} : ∀ (k : Nat), ((List.range k).map fun i => (e, (cs.drop (i * sz)).take sz)).flatMap (·.2) = cs.take (k * sz)
 | 0 => by simp
 | k + 1 => by
  rw [List.range_succ, List.map_append, List.flatMap_append, flat_range k]
  simp only [List.map_cons, List.map_nil, List.flatMap_cons, List.flatMap_nil, List.append_nil]
  rw [Nat.add_mul, Nat.one_mul, List.take_add]
theorem cells_flat {W : World} {g sz : Nat} : ∀ (L : List (List Value)) (o : Nat), (∀ j cj, L[j]? = some cj → cj.length = sz ∧ ∀ (k : Nat) c, cj[k]? = some c → W.cell? ⟨g, o + j * sz + k, none⟩ = some c) → ∀ i y, L.flatten[i]? = some y → W.cell? ⟨g, o + i, none⟩ = some y
 | [], _, _, i, y, h => by simp at h
 | c :: L, o, hq, i, y, h => by
  obtain ⟨h1, h2⟩ := hq 0 c rfl
  rw [List.flatten_cons] at h
  by_cases hi : i < c.length
  ·rw [List.getElem?_append_left hi] at h
   have := h2 i y h
   rw [Nat.zero_mul, Nat.add_zero] at this
   exact this
  ·rw [List.getElem?_append_right (by omega)] at h
   have := cells_flat L (o + sz) (fun j cj hj => by
    obtain ⟨a, b⟩ := hq (j + 1) cj (by simpa using hj)
    refine ⟨a, fun k c' hc => ?_⟩
    have := b k c' hc
    rw [Nat.add_mul, Nat.one_mul] at this
    rw [show o + sz + j * sz + k = o + (j * sz + sz) + k by omega]
    exact this) (i - c.length) y h
   rw [show o + i = o + sz + (i - c.length) by omega]
   exact this
section
variable {H : Type} {enc : TypeId × Value → H} {P : Program} {W : World}
theorem weightsAll_mem' {e : TypeId} {l : List (DataW H)} {d : DataW H} (hd : d ∈ l) {n : Nat} (hn : n ∈ d.weights P e) : n ∈ DataW.weightsAll P e l := by
 induction l with
 | nil => cases hd
 | cons x l ih =>
  show n ∈ x.weights P e ++ DataW.weightsAll P e l
  rcases List.mem_cons.1 hd with rfl | h
  ·exact List.mem_append_left _ hn
  ·exact List.mem_append_right _ (ih h)
def Opens (enc : TypeId × Value → H) (P : Program) (W : World) (n : Nat) (t : TypeId) (cs : List Value) : Prop :=
 plainT P n t = true ∧ ∃ fuel d p, DataW.trod enc P W 0 (fun _ => true) true fuel t cs = some (d, p) ∧ (∀ x ∈ p, x.block < W.heap.size) ∧ ∀ k ∈ d.weights P t, k ≤ reachBytes
def Opened (P : Program) (W : World) (n : Nat) (t : TypeId) (cs : List Value) : Prop :=
 ∀ m h, Fits W m h W → RoOnly h → ∃ (m' : Map) (h' : AHeap) (l : List AV), Ext m m' ∧ Keeps h h' ∧ Fits W m' h' W ∧ RoOnly h' ∧ RelL m' l cs ∧ l.all AV.one = true ∧ l.length = P.cellsOf t ∧ Plain P h'.next h' n t l
theorem open_list {n : Nat} (ih : ∀ t cs, Opens enc P W n t cs → Opened P W n t cs) : ∀ (ps : List (TypeId × List Value)), (∀ q ∈ ps, Opens enc P W n q.1 q.2) → ∀ m h, Fits W m h W → RoOnly h →
  ∃ (m' : Map) (h' : AHeap) (ls : List (List AV)), Ext m m' ∧ Keeps h h' ∧ Fits W m' h' W ∧ RoOnly h' ∧ RelL m' ls.flatten (ps.flatMap (·.2)) ∧ ls.flatten.all AV.one = true ∧ ls.length = ps.length ∧
   ∀ (i : Nat) q li, ps[i]? = some q → ls[i]? = some li → Plain P h'.next h' n q.1 li ∧ li.length = P.cellsOf q.1
 | [], _, m, h, F, hro => ⟨m, h, [], Ext.refl m, Keeps.refl h, F, hro, .nil, rfl, rfl, fun i q li a => by simp at a⟩
 | q :: ps, ho, m, h, F, hro => by
  obtain ⟨m1, h1, l, x1, k1, F1, r1, a1, a2, a3, a4⟩ := ih q.1 q.2 (ho q (List.mem_cons_self ..)) m h F hro
  obtain ⟨m2, h2, ls, x2, k2, F2, r2, b1, b2, b3, b4⟩ := open_list ih ps (fun q' hq => ho q' (List.mem_cons_of_mem _ hq)) m1 h1 F1 r1
  refine ⟨m2, h2, l :: ls, x1.trans x2, k1.trans k2, F2, r2, ?_, ?_, by simp [b3], fun i q' li hi hl => ?_⟩
  ·rw [List.flatten_cons, List.flatMap_cons]
   exact (a1.mono x2.le).append b1
  ·rw [List.flatten_cons, List.all_append, a2, b2]; rfl
  ·cases i with
   | zero =>
    simp at hi hl
    subst hi; subst hl
    exact ⟨a4.keep k2.1 (fun b o _ hb => k2.2.2 b o hb), a3⟩
   | succ i => exact b4 i q' li (by simpa using hi) (by simpa using hl)
theorem roOnly_new {h : AHeap} (hr : RoOnly h) (t : T AV) : RoOnly (h.new (.ro t)) := by
 intro b o hb
 by_cases e : h.next = b
 ·subst e
  rw [get_new_same] at hb
  cases hb
  rfl
 ·rw [get_new_other _ e] at hb
  exact hr b o hb
theorem put_get (l : List AV) (i : Nat) : (T.put .e 0 l : T AV).get i = l[i]? := rowOf_get l i
theorem keeps_new {m : Map} {h : AHeap} (F : Fits W m h W) (o : AObj) : Keeps h (h.new o) := ⟨Nat.le_succ _, rfl, fun b x hb => by
 have := F.lt_next hb
 rw [get_new_other _ (by omega)]
 exact hb⟩
theorem len_same {sz : Nat} : ∀ (ls : List (List AV)), (∀ l ∈ ls, l.length = sz) → ls.flatten.length = ls.length * sz
 | [], _ => by simp
 | l :: ls, h => by
  rw [List.flatten_cons, List.length_append, h l (List.mem_cons_self ..), len_same ls (fun x hx => h x (List.mem_cons_of_mem _ hx)), List.length_cons, Nat.add_mul]
  omega
theorem open_plain : ∀ (n : Nat) (t : TypeId) (cs : List Value), Opens enc P W n t cs → Opened P W n t cs
 | 0, _, _, ho => by cases ho.1
 | n + 1, t, cs, ⟨hp, fuel, d, p, htr, hpl, hwt⟩ => by
  intro m h F hro
  have ih := open_plain n
  simp only [plainT] at hp
  split at hp
  ·rename_i hu
   have hc := Nat.eq_of_beq_eq_true hp
   obtain ⟨b, rfl, _⟩ := DataW.trod_bool hu htr
   exact ⟨m, h, [.bool b], Ext.refl m, Keeps.refl h, F, hro, .cons (.bool b) .nil, rfl, by rw [hc]; rfl, by simp only [Plain, hu]; exact ⟨b, rfl⟩⟩
  ·rename_i k hu
   have hc := Nat.eq_of_beq_eq_true hp
   obtain ⟨z, rfl, _, hz⟩ := DataW.trod_int hu htr
   exact ⟨m, h, [.int k z], Ext.refl m, Keeps.refl h, F, hro, .cons (.int k z) .nil, rfl, by rw [hc]; rfl, by simp only [Plain, hu]; exact ⟨z, rfl, hz⟩⟩
  ·rename_i hu
   have hc := Nat.eq_of_beq_eq_true hp
   obtain ⟨s, rfl, hx, _⟩ := DataW.trod_string hu htr
   simp only [Prod.mk.injEq] at hx
   obtain ⟨rfl, rfl⟩ := hx
   exact ⟨m, h, [strA s.data.toList], Ext.refl m, Keeps.refl h, F, hro, .cons (rel_str m s) .nil, rfl, by rw [hc]; rfl, by simp only [Plain, hu]; exact ⟨s.data.toList, rfl, hwt _ (by simp [DataW.weights])⟩⟩
  ·rename_i fs hu
   rw [Bool.and_eq_true] at hp
   obtain ⟨hp1, hp2⟩ := hp
   obtain ⟨xs, fn, _, hx, hlen, hxl, hf⟩ := DataW.trod_struct hu htr
   simp only [Prod.mk.injEq] at hx
   obtain ⟨rfl, rfl⟩ := hx
   have hcz : consec P fs.toList 0 = some (P.cellsOf t) := by
    split at hp1
    ·rename_i z hz
     rw [hz, Nat.eq_of_beq_eq_true hp1]
    ·cases hp1
   have hps : ∀ q ∈ fs.toList.map (fun f => (f.type, (cs.drop f.offset).take (P.cellsOf f.type))), Opens enc P W n q.1 q.2 := by
    intro q hq
    obtain ⟨f, hfm, rfl⟩ := List.mem_map.1 hq
    obtain ⟨i, hi, hif⟩ := List.getElem_of_mem hfm
    have hif2 : fs[i]? = some f := by rw [← hif]; simp at hi ⊢
    have hfi := hf i f hif2
    have hix : i < xs.length := by rw [hxl]; simpa using hi
    rw [List.getElem?_eq_getElem hix] at hfi
    refine ⟨List.all_eq_true.1 hp2 f hfm, fn, xs[i].1, xs[i].2, hfi, fun x hx => hpl x (List.mem_flatMap.2 ⟨xs[i], List.getElem_mem _, hx⟩), fun k hk => hwt k ?_⟩
    simp only [DataW.weights, hu]
    exact DataW.weights_mem_each (j := i) (t := f.type) (d := xs[i].1) (by simp [hif2]) (by simp [List.getElem?_eq_getElem hix]) k hk
   obtain ⟨m', h', ls, x1, k1, F1, r1, a1, a2, a3, a4⟩ := open_list ih _ hps m h F hro
   rw [flat_consec _ _ (by rw [hlen]; exact hcz), List.drop_zero] at a1
   have a3' : ls.length = fs.size := by simpa using a3
   refine ⟨m', h', ls.flatten, x1, k1, F1, r1, a1, a2, by rw [a1.length, hlen], ?_⟩
   simp only [Plain, hu]
   exact ⟨ls, rfl, a3', fun i f li hi hl => (a4 i (f.type, (cs.drop f.offset).take (P.cellsOf f.type)) li (by rw [List.getElem?_map]; simp [hi]) hl).1⟩
  ·rename_i k e hu
   rw [Bool.and_eq_true] at hp
   obtain ⟨hp1, hp2⟩ := hp
   have hsz := Nat.eq_of_beq_eq_true hp1
   obtain ⟨xs, fn, _, hx, hlen, hxl, hf⟩ := DataW.trod_array hu htr
   simp only [Prod.mk.injEq] at hx
   obtain ⟨rfl, rfl⟩ := hx
   have hps : ∀ q ∈ (List.range k).map (fun i => (e, (cs.drop (i * P.cellsOf e)).take (P.cellsOf e))), Opens enc P W n q.1 q.2 := by
    intro q hq
    obtain ⟨i, hi, rfl⟩ := List.mem_map.1 hq
    have hik : i < k := List.mem_range.1 hi
    have hfi := hf i hik
    have hix : i < xs.length := by omega
    rw [List.getElem?_eq_getElem hix] at hfi
    refine ⟨hp2, fn, xs[i].1, xs[i].2, hfi, fun x hx => hpl x (List.mem_flatMap.2 ⟨xs[i], List.getElem_mem _, hx⟩), fun j hj => hwt j ?_⟩
    simp only [DataW.weights, hu]
    exact weightsAll_mem' (List.mem_map.2 ⟨xs[i], List.getElem_mem _, rfl⟩) hj
   obtain ⟨m', h', ls, x1, k1, F1, r1, a1, a2, a3, a4⟩ := open_list ih _ hps m h F hro
   rw [flat_range, hsz, ← hlen, List.take_length] at a1
   have a3' : ls.length = k := by simpa using a3
   refine ⟨m', h', ls.flatten, x1, k1, F1, r1, a1, a2, by rw [a1.length, hlen], ?_⟩
   simp only [Plain, hu]
   refine ⟨ls, rfl, a3', fun li hl => ?_⟩
   obtain ⟨i, hi, rfl⟩ := List.getElem_of_mem hl
   exact (a4 i (e, (cs.drop (i * P.cellsOf e)).take (P.cellsOf e)) ls[i] (by simp [List.getElem?_range (show i < k by omega)]) (List.getElem?_eq_getElem hi)).1
  ·rename_i e hu
   simp only [Bool.and_eq_true] at hp
   obtain ⟨⟨hp0, hp1⟩, hp2⟩ := hp
   have hc := Nat.eq_of_beq_eq_true hp0
   have hpos : 0 < P.cellsOf e := Nat.le_of_ble_eq_true hp1
   rcases DataW.trod_slice hu htr with ⟨rfl, _⟩ | ⟨a, len, cap, elems, rest, fn, _, rfl, hx, _, hlc, hcm, hel, hee, _, _⟩
   ·exact ⟨m, h, [.nsl], Ext.refl m, Keeps.refl h, F, hro, .cons .nsl .nil, rfl, by rw [hc]; rfl, by
     simp only [Plain, hu]
     exact ⟨.nsl, [], rfl, ⟨by simp, .inl ⟨rfl, .inl rfl⟩⟩, by simp, by simp⟩⟩
   simp only [Prod.mk.injEq] at hx
   obtain ⟨rfl, rfl⟩ := hx
   by_cases h0 : len = 0
   ·subst h0
    exact ⟨m, h, [.esl], Ext.refl m, Keeps.refl h, F, hro, .cons (.esl a cap) .nil, rfl, by rw [hc]; rfl, by
     simp only [Plain, hu]
     exact ⟨.esl, [], rfl, ⟨by simp, .inl ⟨rfl, .inr rfl⟩⟩, by simp, by simp⟩⟩
   obtain ⟨L, hL, hLq⟩ := list_of' (α := List Value) (Q := fun i c => i < len ∧ W.cells? 0 (a.add (i * P.cellsOf e)) (P.cellsOf e) = some c ∧ DataW.trod enc P W 0 (fun _ => true) true fn e c = elems[i]?) len (fun i hi => by
    have h1 := hee i hi
    have hix : i < elems.length := by omega
    rw [List.getElem?_eq_getElem hix] at h1
    obtain ⟨c, hc1, hc2⟩ := Option.bind_eq_some_iff.1 h1
    exact ⟨c, hi, hc1, by rw [List.getElem?_eq_getElem hix]; exact hc2⟩)
   have hps : ∀ q ∈ L.map (fun c => (e, c)), Opens enc P W n q.1 q.2 := by
    intro q hq
    obtain ⟨c, hcm2, rfl⟩ := List.mem_map.1 hq
    obtain ⟨i, hi, rfl⟩ := List.getElem_of_mem hcm2
    obtain ⟨hil, _, h3⟩ := hLq i L[i] (List.getElem?_eq_getElem hi)
    have hix : i < elems.length := by omega
    rw [List.getElem?_eq_getElem hix] at h3
    refine ⟨hp2, fn, elems[i].1, elems[i].2, h3, fun x hx => hpl x (List.mem_append_right _ (List.mem_flatMap.2 ⟨elems[i], List.mem_append_left _ (List.getElem_mem _), hx⟩)), fun k hk => hwt k ?_⟩
    simp only [DataW.weights, hu]
    exact List.mem_cons_of_mem _ (List.mem_append_left _ (weightsAll_mem' (List.mem_map.2 ⟨elems[i], List.getElem_mem _, rfl⟩) hk))
   obtain ⟨m1, h1, ls, x1, k1, F1, r1, a1, a2, a3, a4⟩ := open_list ih _ hps m h F hro
   have a3' : ls.length = len := by simpa [hL] using a3
   have hflat : (L.map (fun c => (e, c))).flatMap (·.2) = L.flatten := by
    rw [List.flatMap_map]
    simp [List.flatMap_def]
   rw [hflat] at a1
   obtain ⟨g, off, spot⟩ := a
   have hspot : spot = none := by
    have hL0 : L[0]? = some L[0] := List.getElem?_eq_getElem (by omega)
    obtain ⟨_, h2, _⟩ := hLq 0 L[0] hL0
    obtain ⟨_, hl2, hcell⟩ := World.cells?_some h2
    have := hcell 0 hpos
    rw [List.getElem?_eq_getElem (by omega)] at this
    simpa [Addr.add] using World.cell?_spot this
   subst hspot
   have hcellL : ∀ (j : Nat) cj, L[j]? = some cj → cj.length = P.cellsOf e ∧ ∀ (k : Nat) c, cj[k]? = some c → W.cell? ⟨g, off + j * P.cellsOf e + k, none⟩ = some c := by
    intro j cj hj
    obtain ⟨_, h2, _⟩ := hLq j cj hj
    obtain ⟨_, hl2, hcell⟩ := World.cells?_some h2
    refine ⟨hl2, fun k c hk => ?_⟩
    have hk2 : k < P.cellsOf e := by have := (List.getElem?_eq_some_iff.1 hk).1; omega
    have := hcell k hk2
    rw [add_plain, add_plain, hk] at this
    exact this
   have hg : g < W.heap.size := hpl (.cell g off) (List.mem_append_left _ (MemPlace.mem_row.2 ⟨0, Nat.mul_pos (by omega) hpos, by simp⟩))
   have hli : ∀ l ∈ ls, l.length = P.cellsOf e := by
    intro l hl
    obtain ⟨i, hi, rfl⟩ := List.getElem_of_mem hl
    exact (a4 i (e, L[i]'(by omega)) ls[i] (by simp [List.getElem?_eq_getElem (show i < L.length by omega)]) (List.getElem?_eq_getElem hi)).2
   have hne : ls ≠ [] := by rintro rfl; simp at a3'; omega
   have hroat : RoAt (m1 ++ [some (g, off, off + cap * P.cellsOf e)]) W g off (T.put .e 0 ls.flatten) := by
    refine ⟨hg, fun i x hx => ?_⟩
    rw [put_get] at hx
    obtain ⟨y, hy, hry⟩ := a1.get i x hx
    refine ⟨y, cells_flat L off hcellL i y hy, hry.mono (Map.le_append _ _), hry.one ?_⟩
    exact List.all_eq_true.1 a2 x (List.mem_of_getElem? hx)
   have F2 := Fits.new F1 (.ro (T.put .e 0 ls.flatten)) (g := g) (s := off) (z := off + cap * P.cellsOf e) (fun b o' s' z' hb ha => by rw [r1 b o' hb] at ha; cases ha)
    (fun n t e he => by cases he) (fun es he => by cases he) (fun n t e he => by cases he) (fun t he => by cases he; exact hroat) (hpin := fun k o' hk ha => by cases ha)
   refine ⟨_, _, [.sl h1.next 0 len (P.cellsOf e)], x1.trans (Ext.append m1 _), k1.trans (keeps_new F1 _), F2, roOnly_new r1 _, .cons ?_ .nil, rfl, by rw [hc]; rfl, ?_⟩
   ·have hmm : (m1 ++ [some (g, off, off + cap * P.cellsOf e)])[h1.next]? = some (some (g, off, off + cap * P.cellsOf e)) := by
     rw [List.getElem?_append_right (by rw [F1.len]; exact Nat.le_refl _), F1.len, Nat.sub_self]
     rfl
    have := Rel.sl (m := m1 ++ [some (g, off, off + cap * P.cellsOf e)]) (b := h1.next) (o := 0) (n := len) (sz := P.cellsOf e) (cap := cap) hmm hlc (by omega)
    rw [Nat.add_zero] at this
    exact this
   ·simp only [Plain, hu]
    refine ⟨_, ls, rfl, ⟨hli, .inr ⟨h1.next, hne, Nat.lt_succ_self _, by rw [a3'], ⟨_, .inl (get_new_same _), fun i _ => put_get _ i⟩⟩⟩, ?_, fun li hl => ?_⟩
    ·have := hwt _ (by simp only [DataW.weights, hu]; exact List.mem_cons_self ..)
     refine Nat.le_trans (Nat.mul_le_mul_right _ ?_) this
     rw [List.length_map, a3', hel]
     omega
    ·obtain ⟨i, hi, rfl⟩ := List.getElem_of_mem hl
     have hpi := (a4 i (e, L[i]'(by omega)) ls[i] (by simp [List.getElem?_eq_getElem (show i < L.length by omega)]) (List.getElem?_eq_getElem hi)).1
     exact hpi.keep (keeps_new F1 _).1 (fun b o _ hb => (keeps_new F1 _).2.2 b o hb)
  ·cases hp
end
end
end Go.Proofs.Ytpnccmlajhhpdaa.Abs
namespace Go.Proofs.Ytpnccmlajhhpdaa.Abs
noncomputable section
open Go.RowKit Go.WideShapes Go.ChangeShapes
def ArgP (P : Program) (N : Nat) (h : AHeap) (n : Nat) (t : TypeId) (a : AV) : Prop := match aggO P t with
 | some true => ∃ l, a = .agg l ∧ Plain P N h n t l
 | _ => Plain P N h n t [a]
def ArgsP (P : Program) (N : Nat) (h : AHeap) (n : Nat) : List TypeId → List AV → Prop
 | [], [] => True
 | t :: ts, a :: as => ArgP P N h n t a ∧ ArgsP P N h n ts as
 | _, _ => False
theorem ArgP.keep {P : Program} {N N' : Nat} {h h' : AHeap} {n : Nat} {t : TypeId} {a : AV} (hp : ArgP P N h n t a) (hN : N ≤ N') (hk : ∀ b o, b < N → h.get b = some o → h'.get b = some o) : ArgP P N' h' n t a := by
 unfold ArgP at hp ⊢
 split at hp
 ·obtain ⟨l, h1, h2⟩ := hp
  exact ⟨l, h1, h2.keep hN hk⟩
 ·exact hp.keep hN hk
theorem rel_single {m : Map} {l : List AV} {v : Value} (h : RelL m l [v]) : ∃ x, l = [x] ∧ Rel m x v := by
 cases h with | cons a b =>
 cases b
 exact ⟨_, rfl, a⟩
section
variable {H : Type} {enc : TypeId × Value → H} {P : Program} {W : World}
theorem open_arg {n : Nat} {t : TypeId} {v : Value} {m : Map} {N : Nat} {h : AHeap} {l : List AV} (ht : plainT P n t = true) (hv : ∃ base, Value.okWide P W .any base t v) (hr : RelL m l v.cells.toList) (hp : Plain P N h n t l) : ∃ a, Rel m a v ∧ ArgP P N h n t a := by
 obtain ⟨base, hv⟩ := hv
 have hsingle : v.cells = #[v] → aggO P t = some false → ∃ a, Rel m a v ∧ ArgP P N h n t a := by
  intro h1 h2
  rw [h1] at hr
  obtain ⟨x, rfl, hx⟩ := rel_single hr
  refine ⟨x, hx, ?_⟩
  unfold ArgP
  rw [h2]
  exact hp
 have hagg : ∀ cs : Array Value, v = .agg cs → aggO P t = some true → ∃ a, Rel m a v ∧ ArgP P N h n t a := by
  intro cs h1 h2
  subst h1
  refine ⟨.agg l, .agg hr, ?_⟩
  unfold ArgP
  rw [h2]
  exact ⟨l, rfl, hp⟩
 cases n with
 | zero => cases ht
 | succ n =>
  simp only [plainT] at ht
  split at ht
  ·rename_i hu
   obtain ⟨b, rfl⟩ := okWide_bool hu hv
   exact hsingle rfl (by simp [aggO, hu, isRowD])
  ·rename_i hu
   obtain ⟨z, rfl⟩ := okWide_int hu hv
   exact hsingle rfl (by simp [aggO, hu, isRowD])
  ·rename_i hu
   obtain ⟨z, rfl⟩ := okWide_string hu hv
   exact hsingle rfl (by simp [aggO, hu, isRowD])
  ·rename_i hu
   obtain ⟨cs, h1, _⟩ := okWide_struct hu hv
   exact hagg cs h1 (by simp [aggO, hu, isRowD])
  ·rename_i hu
   unfold Value.okWide at hv
   rw [hu] at hv
   obtain ⟨cs, h1, _⟩ := hv
   exact hagg cs h1 (by simp [aggO, hu, isRowD])
  ·rename_i hu
   obtain ⟨a, len, cap, rfl⟩ := okWide_slice hu hv
   exact hsingle rfl (by simp [aggO, hu, isRowD])
  ·cases ht
theorem open_each {n : Nat} : ∀ (ts : List TypeId) (vs : List Value) (ds : List (DataW H)) (p : List MemPlace), DataW.TrodAll enc P W 0 (fun _ => true) true ts vs ds p → (∀ x ∈ p, x.block < W.heap.size) → (∀ k ∈ DataW.weightsEach P ts ds, k ≤ reachBytes) →
  ts.all (plainT P n) = true → (∀ (i : Nat) t v, ts[i]? = some t → vs[i]? = some v → ∃ base, Value.okWide P W .any base t v) → ∀ m h, Fits W m h W → RoOnly h →
  ∃ (m' : Map) (h' : AHeap) (as : List AV), Ext m m' ∧ Keeps h h' ∧ Fits W m' h' W ∧ RoOnly h' ∧ RelL m' as vs ∧ ArgsP P h'.next h' n ts as
 | [], vs, ds, p, ht, _, _, _, _, m, h, F, hro => by
  cases vs with
  | nil => exact ⟨m, h, [], Ext.refl m, Keeps.refl h, F, hro, .nil, trivial⟩
  | cons v vs => cases ht
 | t :: ts, vs, ds, p, ht, hpl, hwt, hall, hval, m, h, F, hro => by
  obtain ⟨v, vs', d, ds', q, q', rfl, rfl, rfl, h0, hr⟩ := trodAll_cons ht
  rw [List.all_cons, Bool.and_eq_true] at hall
  obtain ⟨fuel, h0⟩ := h0
  have hw1 : ∀ k ∈ d.weights P t, k ≤ reachBytes := fun k hk => hwt k (by show k ∈ d.weights P t ++ DataW.weightsEach P ts ds'; exact List.mem_append_left _ hk)
  have hw2 : ∀ k ∈ DataW.weightsEach P ts ds', k ≤ reachBytes := fun k hk => hwt k (by show k ∈ d.weights P t ++ DataW.weightsEach P ts ds'; exact List.mem_append_right _ hk)
  obtain ⟨m1, h1, l, x1, k1, F1, r1, a1, _, _, a4⟩ := open_plain (enc := enc) n t v.cells.toList ⟨hall.1, fuel, d, q, h0, fun x hx => hpl x (List.mem_append_left _ hx), hw1⟩ m h F hro
  obtain ⟨a, hra, hpa⟩ := open_arg hall.1 (hval 0 t v rfl rfl) a1 a4
  obtain ⟨m2, h2, as, x2, k2, F2, r2, b1, b2⟩ := open_each ts vs' ds' q' hr (fun x hx => hpl x (List.mem_append_right _ hx)) hw2 hall.2 (fun i t' v' hi hv => hval (i + 1) t' v' (by simpa using hi) (by simpa using hv)) m1 h1 F1 r1
  exact ⟨m2, h2, a :: as, x1.trans x2, k1.trans k2, F2, r2, .cons (hra.mono x2.le) b1, hpa.keep k2.1 (fun b o _ hb => k2.2.2 b o hb), b2⟩
theorem open_all {n : Nat} (X : List Nat) {ts : List TypeId} {vs : List Value} {ds : List (DataW H)} {p : List MemPlace} (ht : DataW.TrodAll enc P W 0 (fun _ => true) true ts vs ds p) (hpl : ∀ x ∈ p, x.block < W.heap.size) (hwt : (DataW.weightsEach P ts ds).all (· ≤ reachBytes) = true)
  (hall : ts.all (plainT P n) = true) (hval : ∀ (i : Nat) t v, ts[i]? = some t → vs[i]? = some v → ∃ base, Value.okWide P W .any base t v) :
  ∃ (m : Map) (h : AHeap) (as : List AV), Fits W m h W ∧ h.ex = X ∧ RelL m as vs ∧ ArgsP P h.next h n ts as := by
 obtain ⟨m, h, as, _, k, F, _, a, b⟩ := open_each (n := n) ts vs ds p ht hpl (fun k hk => by simpa using List.all_eq_true.1 hwt k hk) hall hval [] ⟨0, X, .e⟩ (fits_start W X) (fun b o hb => by
  have : (T.e : T AObj).get b = some o := hb
  rw [T.get_e] at this; cases this)
 exact ⟨m, h, as, F, k.2.1, a, b⟩
theorem says_in {f : FuncId} {args : List AV} {args' : Array Value} {m : Map} {h h' : AHeap} (hs : Says P f args h (.ret (.bool true)) h') (F : Fits W m h W) (hr : RelL m args args'.toList) :
  Calls P f args' W fun e W' => e = .returned (.bool true) ∧ Below W.heap.size W W' := by
 refine Calls.mono (hs W m W args'.toList hr F) ?_
 rintro e W' ⟨m', _, F, v', rfl, hv⟩
 cases hv
 exact ⟨rfl, F.below⟩
end
theorem map_of {α β : Type} {f : α → β} {Q : α → Prop} : ∀ (ls : List β), (∀ l ∈ ls, ∃ x, l = f x ∧ Q x) → ∃ xs : List α, ls = xs.map f ∧ ∀ x ∈ xs, Q x
 | [], _ => ⟨[], rfl, by simp⟩
 | l :: ls, h => by
  obtain ⟨x, h1, h2⟩ := h l (List.mem_cons_self ..)
  obtain ⟨xs, h3, h4⟩ := map_of ls (fun y hy => h y (List.mem_cons_of_mem _ hy))
  exact ⟨x :: xs, by rw [List.map_cons, ← h1, ← h3], fun y hy => by
   rcases List.mem_cons.1 hy with rfl | hy
   ·exact h2
   ·exact h4 y hy⟩
theorem flat_one {α β : Type} (f : α → β) : ∀ (vs : List α), (vs.map fun v => [f v]).flatten = vs.map f
 | [] => rfl
 | v :: vs => by rw [List.map_cons, List.flatten_cons, flat_one f vs]; rfl
theorem flat_part {sz : Nat} : ∀ (ls : List (List AV)) (i : Nat) (hi : i < ls.length), (∀ l ∈ ls, l.length = sz) → (ls.flatten.drop (i * sz)).take sz = ls[i]
 | [], i, hi, _ => by simp at hi
 | l :: ls, 0, _, h => by
  have := h l (List.mem_cons_self ..)
  rw [List.flatten_cons, Nat.zero_mul, List.drop_zero, List.take_append_of_le_length (by omega), ← this, List.take_length]
  rfl
 | l :: ls, i + 1, hi, h => by
  have := h l (List.mem_cons_self ..)
  rw [List.flatten_cons, Nat.add_mul, Nat.one_mul, Nat.add_comm, ← List.drop_drop, List.drop_append_of_le_length (by omega), ← this, List.drop_length, List.nil_append, this]
  exact flat_part ls i (by simpa using hi) (fun x hx => h x (List.mem_cons_of_mem _ hx))
section
variable {N : Nat} {h : AHeap} {sz : Nat} {x : AV} {ls : List (List AV)}
theorem Slc.len (hs : Slc N h sz x ls) : lenL x = some (ls.length : Int) := by
 rcases hs.2 with ⟨rfl, rfl | rfl⟩ | ⟨b, _, _, rfl, _⟩ <;> rfl
theorem Slc.at (hs : Slc N h sz x ls) {i : Nat} (hi : i < ls.length) : ∃ b, b < N ∧ idxP sz x (i : Int) = some (.ptr b (i * sz)) ∧ RowLike h b ls.flatten := by
 rcases hs.2 with ⟨rfl, _⟩ | ⟨b, _, hb, rfl, hg⟩
 ·simp at hi
 ·refine ⟨b, hb, ?_, hg⟩
  rw [idxP_sl hi, Nat.zero_add]
theorem take_like {t : T AV} {l : List AV} : ∀ (n o : Nat), (∀ i, o ≤ i → i < o + n → t.get i = l[i]?) → o + n ≤ l.length → t.take o n = some ((l.drop o).take n)
 | 0, o, _, _ => by simp [T.take]
 | n + 1, o, hq, ho => by
  have h1 : t.get o = some (l[o]'(by omega)) := by
   rw [hq o (by omega) (by omega)]; exact List.getElem?_eq_getElem (by omega)
  simp only [T.take, h1, take_like n (o + 1) (fun i a b => hq i (by omega) (by omega)) (by omega)]
  rw [List.drop_eq_getElem_cons (by omega : o < l.length), List.take_succ_cons]
theorem RowLike.part {b o n : Nat} {l : List AV} (k : RowLike h b l) (ho : o + n ≤ l.length) : rowGet h b o n = some ((l.drop o).take n) := by
 obtain ⟨t, h1, h2⟩ := k
 unfold rowGet
 rcases h1 with h1 | ⟨m, e, h1⟩ <;> rw [h1] <;> exact take_like n o (fun i _ hi => h2 i (by omega)) ho
theorem RowLike.cell {b o : Nat} {l : List AV} (k : RowLike h b l) (ho : o < l.length) : ldCell h (.ptr b o) = some l[o] := by
 obtain ⟨t, h1, h2⟩ := k
 show cellGet h b o = _
 unfold cellGet
 rcases h1 with h1 | ⟨m, e, h1⟩ <;> rw [h1] <;> exact (h2 o ho).trans (List.getElem?_eq_getElem ho)
theorem Slc.row (hs : Slc N h sz x ls) {i : Nat} (hi : i < ls.length) : ∃ b, b < N ∧ idxP sz x (i : Int) = some (.ptr b (i * sz)) ∧ ldRow h sz (.ptr b (i * sz)) = some ls[i] := by
 obtain ⟨b, h0, h1, h2⟩ := hs.at hi
 refine ⟨b, h0, h1, ?_⟩
 have hl := len_same ls hs.1
 have h3 : i * sz + sz ≤ ls.flatten.length := by
  rw [hl]
  have : (i + 1) * sz ≤ ls.length * sz := Nat.mul_le_mul_right _ hi
  rw [Nat.add_mul, Nat.one_mul] at this
  exact this
 show rowGet h b (i * sz) sz = _
 rw [h2.part h3, flat_part ls i hi hs.1]
theorem Slc.cell {α : Type} {f : α → AV} {vs : List α} (hs : Slc N h 1 x (vs.map fun v => [f v])) {i : Nat} (hi : i < vs.length) : ∃ b, b < N ∧ idxP 1 x (i : Int) = some (.ptr b i) ∧ ldCell h (.ptr b i) = some (f vs[i]) := by
 obtain ⟨b, h0, h1, h2⟩ := hs.at (i := i) (by simpa using hi)
 rw [Nat.mul_one] at h1
 rw [flat_one] at h2
 refine ⟨b, h0, h1, ?_⟩
 rw [h2.cell (by simpa using hi), List.getElem_map]
end
end
end Go.Proofs.Ytpnccmlajhhpdaa.Abs
namespace Go.Proofs.Ytpnccmlajhhpdaa.Abs
noncomputable section
open Go.RowKit
section
variable {P : Program} {N : Nat} {h : AHeap} {n : Nat} {t e : TypeId} {a : AV} {l : List AV} {k : IntKind}
theorem Plain.int (hu : P.underlying t = some (.int k)) (hp : Plain P N h (n + 1) t l) : ∃ z, l = [.int k z] ∧ (Lit.int k z).wf = true := by
 simp only [Plain, hu] at hp; exact hp
theorem Plain.bool (hu : P.underlying t = some .bool) (hp : Plain P N h (n + 1) t l) : ∃ b, l = [.bool b] := by
 simp only [Plain, hu] at hp; exact hp
theorem Plain.str (hu : P.underlying t = some .string) (hp : Plain P N h (n + 1) t l) : ∃ s : Bytes, l = [strA s] ∧ s.length ≤ reachBytes := by
 simp only [Plain, hu] at hp; exact hp
theorem Plain.slice (hu : P.underlying t = some (.slice e)) (hp : Plain P N h (n + 1) t l) : ∃ (x : AV) (ls : List (List AV)), l = [x] ∧ Slc N h (P.cellsOf e) x ls ∧ ls.length * P.bytesOf e ≤ reachBytes ∧ ∀ li ∈ ls, Plain P N h n e li := by
 simp only [Plain, hu] at hp; exact hp
theorem ints_of (hu : P.underlying e = some (.int k)) {ls : List (List AV)} (hp : ∀ li ∈ ls, Plain P N h (n + 1) e li) : ∃ zs : List Int, ls = zs.map (fun z => [.int k z]) ∧ ∀ z ∈ zs, (Lit.int k z).wf = true :=
 map_of ls fun l hl => (hp l hl).int hu
theorem strs_of (hu : P.underlying e = some .string) {ls : List (List AV)} (hp : ∀ li ∈ ls, Plain P N h (n + 1) e li) : ∃ ss : List Bytes, ls = ss.map (fun s => [strA s]) ∧ ∀ s ∈ ss, s.length ≤ reachBytes :=
 map_of ls fun l hl => (hp l hl).str hu
theorem ArgP.plain (ha : aggO P t = some false) (hp : ArgP P N h n t a) : Plain P N h n t [a] := by
 unfold ArgP at hp; rw [ha] at hp; exact hp
theorem ArgP.int (hu : P.underlying t = some (.int k)) (hp : ArgP P N h (n + 1) t a) : ∃ z, a = .int k z ∧ (Lit.int k z).wf = true := by
 obtain ⟨z, h1, h2⟩ := (hp.plain (by simp [aggO, hu, isRowD])).int hu
 simp only [List.cons.injEq, and_true] at h1
 exact ⟨z, h1, h2⟩
theorem ArgP.bool (hu : P.underlying t = some .bool) (hp : ArgP P N h (n + 1) t a) : ∃ b, a = .bool b := by
 obtain ⟨z, h1⟩ := (hp.plain (by simp [aggO, hu, isRowD])).bool hu
 simp only [List.cons.injEq, and_true] at h1
 exact ⟨z, h1⟩
theorem ArgP.slice (hu : P.underlying t = some (.slice e)) (hp : ArgP P N h (n + 1) t a) : ∃ ls : List (List AV), Slc N h (P.cellsOf e) a ls ∧ ls.length * P.bytesOf e ≤ reachBytes ∧ ∀ li ∈ ls, Plain P N h n e li := by
 obtain ⟨x, ls, h1, h2⟩ := (hp.plain (by simp [aggO, hu, isRowD])).slice hu
 simp only [List.cons.injEq, and_true] at h1
 subst h1
 exact ⟨ls, h2⟩
theorem args0 {as : List AV} (hp : ArgsP P N h n [] as) : as = [] := by
 cases as with
 | nil => rfl
 | cons => cases hp
theorem args_cons {ts : List TypeId} {as : List AV} (hp : ArgsP P N h n (t :: ts) as) : ∃ a as', as = a :: as' ∧ ArgP P N h n t a ∧ ArgsP P N h n ts as' := by
 cases as with
 | nil => cases hp
 | cons a as => exact ⟨a, as, rfl, hp.1, hp.2⟩
theorem wf_i64 {z : Int} (hz : (Lit.int .i64 z).wf = true) : -9223372036854775808 ≤ z ∧ z < 9223372036854775808 := by
 have := bounds_i64 hz
 omega
end
mutual
theorem AV.same_self : ∀ x : AV, AV.same x x = true
 | .bool b => by simp [AV.same]
 | .int k n => by simp [AV.same]
 | .str n v => by simp [AV.same]
 | .ptr b o => by simp [AV.same]
 | .nilp => by simp [AV.same]
 | .sl b o n sz => by simp [AV.same]
 | .nsl => by simp [AV.same]
 | .esl => by simp [AV.same]
 | .mp b => by simp [AV.same]
 | .nmp => by simp [AV.same]
 | .fn f a b => by simp [AV.same, AV.sameL_self a, AV.sameL_self b]
 | .nfn => by simp [AV.same]
 | .ifc t v => by simp [AV.same, AV.same_self v]
 | .nifc => by simp [AV.same]
 | .agg l => by simp [AV.same, AV.sameL_self l]
 | .tup l => by simp [AV.same, AV.sameL_self l]
 | .yld b => by simp [AV.same]
 | .mrk b => by simp [AV.same]
 | .gptr g o => by simp [AV.same]
theorem AV.sameL_self : ∀ l : List AV, AV.sameL l l = true
 | [] => by simp [AV.sameL]
 | x :: l => by simp [AV.sameL, AV.same_self x, AV.sameL_self l]
end
theorem sameO_self (x : AV) : sameO (some x) (some x) = true := by simp [sameO, AV.same_self]
theorem reLoad_c {P : Program} {h : AHeap} {ty : TypeId} {x v : AV} (ha : aggO P ty = some false) (e : ldCell h x = some v) : reLoad P h ty x v = true := reLoad_cell ha e (sameO_self v)
theorem box_agg {h : AHeap} {e : TypeId} {l : List AV} (hl : l.all AV.one = true) : opBox h e (some (.agg l)) = some (.val (newP h), newH h e l) := by
 show outNew h e l = _
 unfold outNew
 rw [if_pos hl]
 rfl
abbrev I64 (z : Int) : Prop := -9223372036854775808 ≤ z ∧ z < 9223372036854775808
end
end Go.Proofs.Ytpnccmlajhhpdaa.Abs
namespace Go.Proofs.Ytpnccmlajhhpdaa.Abs
noncomputable section
open Go.RowKit
def RowH (h : AHeap) (b : Nat) (e : TypeId) (l : List AV) : Prop := ∃ t, h.get b = some (.row l.length t e) ∧ ∀ i, i < l.length → t.get i = l[i]?
def Tch (S : List Nat) (h h' : AHeap) : Prop := h.next ≤ h'.next ∧ h'.ex = h.ex ∧ ∀ b, b < h.next → b ∉ S → h'.get b = h.get b
section
variable {S S' : List Nat} {a c h h' : AHeap} {b : Nat} {e : TypeId} {l vs : List AV} {v : AV}
theorem Tch.refl (S : List Nat) (h : AHeap) : Tch S h h := ⟨Nat.le_refl _, rfl, fun _ _ _ => rfl⟩
theorem Tch.trans (k : Tch S a h) (j : Tch S h c) : Tch S a c := ⟨Nat.le_trans k.1 j.1, j.2.1.trans k.2.1, fun b hb hs => (j.2.2 b (Nat.lt_of_lt_of_le hb k.1) hs).trans (k.2.2 b hb hs)⟩
theorem Tch.trans' (k : Tch S a h) (j : Tch S' h c) (hs : ∀ b ∈ S', b ∈ S ∨ a.next ≤ b) : Tch S a c := ⟨Nat.le_trans k.1 j.1, j.2.1.trans k.2.1, fun b hb hS => (j.2.2 b (Nat.lt_of_lt_of_le hb k.1) (fun h => by
 rcases hs b h with h | h
 ·exact hS h
 ·omega)).trans (k.2.2 b hb hS)⟩
theorem Tch.mono (k : Tch S a h) (hs : ∀ b ∈ S, b ∈ S' ∨ a.next ≤ b) : Tch S' a h := ⟨k.1, k.2.1, fun b hb hS => k.2.2 b hb (fun h => by
 rcases hs b h with h | h
 ·exact hS h
 ·omega)⟩
theorem Tch.new (S : List Nat) (h : AHeap) (o : AObj) : Tch S h (h.new o) := ⟨Nat.le_succ _, rfl, fun b hb _ => get_new_other o (by omega)⟩
theorem Tch.newH (S : List Nat) (h : AHeap) (e : TypeId) (l : List AV) : Tch S h (newH h e l) := Tch.new S h _
theorem Tch.put (hb : b ∈ S ∨ h.next ≤ b) (o : AObj) : Tch S h (h.put b o) := ⟨Nat.le_refl _, rfl, fun i hi hS => get_put_other o (fun e => by
 subst e
 rcases hb with h | h
 ·exact hS h
 ·omega)⟩
theorem Tch.above (k : Tch [] a h) : Above a h := ⟨k.1, k.2.1, fun b hb => k.2.2 b hb (by simp)⟩
theorem RowH.same (k : RowH h b e l) (hs : h'.get b = h.get b) : RowH h' b e l := by
 obtain ⟨t, h1, h2⟩ := k
 exact ⟨t, hs.trans h1, h2⟩
theorem RowH.tch (k : RowH h b e l) (hs : Tch S h h') (hb : b < h.next) (hn : b ∉ S) : RowH h' b e l := k.same (hs.2.2 b hb hn)
theorem RowH.new (h : AHeap) (e : TypeId) (l : List AV) : RowH (newH h e l) h.next e l := ⟨_, get_newH h e l, fun i _ => rowOf_get l i⟩
theorem ex_newH (h : AHeap) (e : TypeId) (l : List AV) : (newH h e l).ex = h.ex := rfl
theorem RowH.cell (k : RowH h b e l) {o : Nat} (ho : o < l.length) : ldCell h (.ptr b o) = some (l[o]'ho) := by
 obtain ⟨t, h1, h2⟩ := k
 simp only [ldCell, cellGet, h1]
 rw [h2 o ho, List.getElem?_eq_getElem ho]
theorem RowH.cell' (k : RowH h b e l) {o : Nat} (ho : l[o]? = some v) : ldCell h (.ptr b o) = some v := by
 obtain ⟨h1, rfl⟩ := List.getElem?_eq_some_iff.1 ho
 exact k.cell h1
theorem take_of_get {t : T AV} {l : List AV} : ∀ (n o : Nat), (∀ i, o ≤ i → i < o + n → t.get i = l[i]?) → o + n ≤ l.length → t.take o n = some ((l.drop o).take n)
 | 0, o, _, _ => by simp [T.take]
 | n + 1, o, hq, ho => by
  have h1 : t.get o = some (l[o]'(by omega)) := by
   rw [hq o (by omega) (by omega)]; exact List.getElem?_eq_getElem (by omega)
  simp only [T.take, h1, take_of_get n (o + 1) (fun i a b => hq i (by omega) (by omega)) (by omega)]
  rw [List.drop_eq_getElem_cons (by omega : o < l.length), List.take_succ_cons]
theorem RowH.part (k : RowH h b e l) {o n : Nat} (ho : o + n ≤ l.length) : rowGet h b o n = some ((l.drop o).take n) := by
 obtain ⟨t, h1, h2⟩ := k
 unfold rowGet
 rw [h1]
 exact take_of_get n o (fun i _ hi => h2 i (by omega)) ho
theorem RowH.ld (k : RowH h b e l) {o n : Nat} (ho : o + n ≤ l.length) : ldRow h n (.ptr b o) = some ((l.drop o).take n) := k.part ho
theorem RowH.ldAll (k : RowH h b e l) {n : Nat} (hn : l.length = n) : ldRow h n (.ptr b 0) = some l := by
 rw [k.ld (by omega)]
 subst hn
 simp
theorem RowH.type (k : RowH h b e l) : rowType h b = some e := by
 obtain ⟨t, h1, _⟩ := k
 unfold rowType
 rw [h1]
def laid (l : List AV) (o : Nat) (vs : List AV) : List AV := l.take o ++ vs ++ l.drop (o + vs.length)
theorem laid_length {o : Nat} (ho : o + vs.length ≤ l.length) : (laid l o vs).length = l.length := by
 unfold laid
 simp only [List.length_append, List.length_take, List.length_drop]
 omega
theorem laid_get {o : Nat} (ho : o + vs.length ≤ l.length) (i : Nat) : (laid l o vs)[i]? = if o ≤ i ∧ i < o + vs.length then vs[i - o]? else l[i]? := by
 unfold laid
 by_cases h1 : i < o
 ·rw [if_neg (by omega), List.append_assoc, List.getElem?_append_left (by rw [List.length_take]; omega), List.getElem?_take_of_lt h1]
 ·by_cases h2 : i < o + vs.length
  ·rw [if_pos ⟨by omega, h2⟩, List.append_assoc, List.getElem?_append_right (by rw [List.length_take]; omega), List.getElem?_append_left (by rw [List.length_take]; omega), List.length_take, Nat.min_eq_left (by omega)]
  ·rw [if_neg (by omega), List.getElem?_append_right (by rw [List.length_append, List.length_take]; omega), List.getElem?_drop, List.length_append, List.length_take, Nat.min_eq_left (by omega), show o + vs.length + (i - (o + vs.length)) = i by omega]
theorem RowH.put (k : RowH h b e l) {o : Nat} (ho : o + vs.length ≤ l.length) (h1 : vs.all AV.one = true) : ∃ h', rowPut h b o vs = some h' ∧ RowH h' b e (laid l o vs) ∧ h'.next = h.next ∧ h'.ex = h.ex ∧ ∀ i, i ≠ b → h'.get i = h.get i := by
 obtain ⟨t, h2, h3⟩ := k
 refine ⟨h.put b (.row l.length (t.put o vs) e), ?_, ⟨t.put o vs, ?_, fun i hi => ?_⟩, rfl, rfl, fun i hi => get_put_other _ (Ne.symm hi)⟩
 ·unfold rowPut
  rw [h2]
  show (if Nat.ble (o + vs.length) l.length = true ∧ vs.all AV.one = true then _ else none) = _
  rw [if_pos ⟨Nat.ble_eq_true_of_le ho, h1⟩]
 ·rw [get_put_same, laid_length ho]
 ·rw [laid_length ho] at hi
  rw [T.get_put, laid_get ho, h3 i hi]
theorem RowH.st (k : RowH h b e l) {o n : Nat} (hn : vs.length = n) (ho : o + n ≤ l.length) (h1 : vs.all AV.one = true) : ∃ h', stRow h n vs (.ptr b o) = some h' ∧ RowH h' b e (laid l o vs) ∧ h'.next = h.next ∧ h'.ex = h.ex ∧ ∀ i, i ≠ b → h'.get i = h.get i := by
 subst hn
 obtain ⟨h', a1, a2⟩ := k.put ho h1
 refine ⟨h', ?_, a2⟩
 simp only [stRow, Nat.beq_refl, a1]
theorem RowH.st1 (k : RowH h b e l) {o : Nat} (ho : o < l.length) (h1 : v.one = true) : ∃ h', stRow h 1 [v] (.ptr b o) = some h' ∧ RowH h' b e (l.set o v) ∧ h'.next = h.next ∧ h'.ex = h.ex ∧ ∀ i, i ≠ b → h'.get i = h.get i := by
 obtain ⟨h', a1, a2, a3⟩ := k.st (o := o) (n := 1) (vs := [v]) rfl (by omega) (by simp [h1])
 refine ⟨h', a1, ?_, a3⟩
 have : laid l o [v] = l.set o v := by
  apply List.ext_getElem?
  intro i
  rw [laid_get (show o + [v].length ≤ l.length by simp only [List.length_cons, List.length_nil]; omega), List.getElem?_set]
  by_cases hi : o = i
  ·subst hi
   simp [ho]
  ·rw [if_neg (by simp; omega), if_neg hi]
 rw [← this]
 exact a2
theorem laid_all (hv : vs.length = l.length) : laid l 0 vs = vs := by
 unfold laid
 rw [hv]
 simp
theorem RowH.stAll (k : RowH h b e l) {n : Nat} (hn : vs.length = n) (hl : l.length = n) (h1 : vs.all AV.one = true) : ∃ h', stRow h n vs (.ptr b 0) = some h' ∧ RowH h' b e vs ∧ h'.next = h.next ∧ h'.ex = h.ex ∧ ∀ i, i ≠ b → h'.get i = h.get i := by
 obtain ⟨h', a1, a2, a3⟩ := k.st (o := 0) hn (by omega) h1
 rw [laid_all (by omega)] at a2
 exact ⟨h', a1, a2, a3⟩
theorem tch_of (h1 : h'.next = h.next) (h2 : h'.ex = h.ex) (h3 : ∀ i, i ≠ b → h'.get i = h.get i) (hb : b ∈ S ∨ h.next ≤ b) : Tch S h h' := ⟨by omega, h2, fun i hi hS => h3 i (fun e => by
 subst e
 rcases hb with h | h
 ·exact hS h
 ·omega)⟩
theorem Slc.tch {N sz : Nat} {x : AV} {ls : List (List AV)} (hs : Slc N h sz x ls) (k : Tch S h h') (hN : N ≤ h.next) (hd : ∀ b ∈ S, N ≤ b) : Slc N h' sz x ls :=
 hs.keep (Nat.le_refl _) fun b o hb hg => by rw [k.2.2 b (by omega) (fun hm => by have := hd b hm; omega)]; exact hg
end
end
end Go.Proofs.Ytpnccmlajhhpdaa.Abs
namespace Go.Proofs.Ytpnccmlajhhpdaa.Abs
noncomputable section
open Go.RowKit
section
variable {P : Program} {h : AHeap} {b o n m sz : Nat} {t e e' : TypeId} {l cs : List AV} {src : AV}
theorem firstA_of_row (hn : n ≤ m) : firstA h sz n (.sl b o m sz) = rowGet h b o (n * sz) := by
 show (if sz = sz ∧ n ≤ m then rowGet h b o (n * sz) else none) = _
 rw [if_pos ⟨rfl, hn⟩]
theorem slice_from {k1 : IntKind} {l1 : Nat} (he : elemOf P t = some e) (hi : (P.info? e).isSome = true) (hsz : P.cellsOf e = sz) (h1 : l1 ≤ m) (hne : ¬ (l1 = m ∧ 0 < l1)) :
  sliceA P h t (.sl b o m sz) (some (.int k1 (l1 : Int))) none = some (.val (.sl b (o + l1 * sz) (m - l1) sz), h) := by
 have b1 : boundA (some (AV.int k1 (l1 : Int))) 0 = some l1 := rfl
 have b2 : boundA none m = some m := rfl
 simp only [sliceA, sliceRow, b1, b2, he]
 rw [if_pos ⟨Nat.ble_eq_true_of_le h1, Nat.ble_eq_true_of_le (Nat.le_refl m), hsz.symm, hi⟩, if_neg (fun hc => hne ⟨Nat.eq_of_beq_eq_true hc.1, Nat.le_of_ble_eq_true hc.2⟩)]
theorem slice_end {k1 : IntKind} (he : elemOf P t = some e) (hi : (P.info? e).isSome = true) (hsz : P.cellsOf e = sz) (h0 : 0 < m) :
  sliceA P h t (.sl b o m sz) (some (.int k1 (m : Int))) none = some (.val .esl, h) := by
 have b1 : boundA (some (AV.int k1 (m : Int))) 0 = some m := rfl
 have b2 : boundA none m = some m := rfl
 simp only [sliceA, sliceRow, b1, b2, he]
 rw [if_pos ⟨Nat.ble_eq_true_of_le (Nat.le_refl m), Nat.ble_eq_true_of_le (Nat.le_refl m), hsz.symm, hi⟩, if_pos ⟨Nat.beq_refl m, Nat.ble_eq_true_of_le h0⟩]
theorem conv_row {s d : TypeId} {x : Bytes} (hs : isBytes P s = true) (hd : isStr P d = true) (hr : rowGet h b o x.length = some (bytesC x)) : opConv P h s d (some (.sl b o x.length 1)) = some (.val (strA x), h) := by
 obtain ⟨w, h1, h2⟩ := bytesA_bytesC x
 unfold isStr at hd
 unfold isBytes at hs
 cases h3 : P.underlying d with
 | none => simp only [h3] at hd; cases hd
 | some ud =>
  cases ud <;> simp only [h3, reduceCtorEq] at hd
  cases h4 : P.underlying s with
  | none => simp only [h4] at hs; cases hs
  | some us =>
   cases us <;> simp only [h4, reduceCtorEq] at hs
   rename_i e
   cases h5 : P.underlying e with
   | none => simp only [h5] at hs; cases hs
   | some ue =>
    cases ue <;> simp only [h5, reduceCtorEq] at hs
    rename_i k
    cases k <;> simp only [reduceCtorEq] at hs
    simp only [opConv, convBytes, h3, h4, h5, hr, h1, if_true, h2]
theorem bytesC_zeros (n : Nat) : bytesC (List.replicate n 0) = List.replicate n (.int .u8 0) := by simp [bytesC]
theorem make_bytes {k1 k2 : IntKind} (he : elemOf P t = some e) (hz : zeroA P e = some (.int .u8 0)) (hsz : P.cellsOf e = 1) (hfit : fitB P e 1 = true) (hex : memB e h.ex = false) (h1 : n ≤ m) (h2 : m ≤ 1000000000) :
  opMakeSlice P h t (some (.int k1 (n : Int))) (some (.int k2 (m : Int))) = some (.val (.sl h.next 0 n 1), newH h e (bytesC (List.replicate m 0))) := by
 have hf : bytesFit P e m = true := bytesFit_of hfit (by omega) h2
 have hc : (List.replicate m (AV.int .u8 0).cells).flatten = bytesC (List.replicate m 0) := by
  rw [bytesC_zeros]
  show (List.replicate m [AV.int .u8 0]).flatten = _
  clear hf h1 h2
  induction m with
  | zero => rfl
  | succ m ih => rw [List.replicate_succ, List.replicate_succ, List.flatten_cons, ih]; rfl
 show (match elemOf P t with | some e => (match zeroA P e with | some z => if Nat.ble n m = true ∧ bytesFit P e m = true then outNewS h e (List.replicate m z.cells).flatten n (P.cellsOf e) else none | none => none) | none => none) = _
 simp only [he, hz]
 rw [if_pos ⟨Nat.ble_eq_true_of_le h1, hf⟩, hc, hsz]
 unfold outNewS
 rw [if_pos ⟨bytesC_one _, hex⟩]
 rfl
end
end
end Go.Proofs.Ytpnccmlajhhpdaa.Abs
namespace Go.Proofs.Ytpnccmlajhhpdaa.Abs
noncomputable section
open Go.RowKit
section
variable {P : Program} {h h' : AHeap} {U8 lo : Nat} {l : Bytes} {t u : TypeId} {x v : AV} {S : List Nat}
theorem append_zero {b o m n e sz : Nat} (he : elemOf P t = some e) (hu : notInt P u = true) (hsz : P.cellsOf e = sz) (hn : n = 0) (hx : lenA x = some n) (hf : firstA h sz n x = some []) (hfit : bytesFit P e (m + n) = true) (hex : memB e h.ex = false) :
  opAppend P h t u (.sl b o m sz) x = some (.val (.sl b o m sz), h) := by
 subst hn
 unfold notInt at hu
 unfold opAppend
 have hl : lenA (.sl b o m sz) = some m := rfl
 split at hu
 ·cases hu
 ·rename_i ud hni heq
  simp only [he, hl, hx, heq, hsz, hf, hfit, hex, List.all_nil, and_self, if_true]
  rfl
 ·cases hu
end
end
end Go.Proofs.Ytpnccmlajhhpdaa.Abs
namespace Go.Proofs.Ytpnccmlajhhpdaa.Abs
noncomputable section
open Go.RowKit
section
variable {P : Program} {w0 : Base} {m0 : Map} {N : Nat} {l l' : Fr} {ds : DefT} {h : AHeap} {Q : Exit → Act → World → Prop} {K : Act → World → Prop} {Y : OutT} {ops : Array Oper} {i : Nat}
theorem WL.a (d : Option Nat) (v : AV) (h' : AHeap) (hk : WL P w0 m0 N ops (i + 1) Q (l.put d v) ds h') (h1 : dstN N ops i = some d := by kernel_rfl) (h2 : wantAt ops l.get i = some true := by kernel_rfl) (h3 : opAt P l.eval ops i h = some (.val v, h') := by kernel_rfl) : WL P w0 m0 N ops i Q l ds h := WL.val h1 h2 h3 hk
theorem WL.b (d : Option Nat) (v : AV) (h' : AHeap) (x : Y = some (.val v, h')) (hk : WL P w0 m0 N ops (i + 1) Q (l.put d v) ds h') (h1 : dstN N ops i = some d := by kernel_rfl) (h2 : wantAt ops l.get i = some true := by kernel_rfl) (h3 : opAt P l.eval ops i h = Y := by kernel_rfl) : WL P w0 m0 N ops i Q l ds h := WL.val h1 h2 (h3.trans x) hk
theorem WL.e (h' : AHeap) (x : Y = some (.skip, h')) (hk : WL P w0 m0 N ops (i + 1) Q l ds h') (h1 : dstN N ops i = some none := by kernel_rfl) (h2 : wantAt ops l.get i = some true := by kernel_rfl) (h3 : opAt P l.eval ops i h = Y := by kernel_rfl) : WL P w0 m0 N ops i Q l ds h := WL.eff h1 h2 (h3.trans x) hk
theorem WL.o (d : Option Nat) (hk : WL P w0 m0 N ops (i + 1) Q (l.put d (.tup [])) ds h) (h1 : dstN N ops i = some d := by kernel_rfl) (h2 : wantAt ops l.get i = some false := by kernel_rfl) : WL P w0 m0 N ops i Q l ds h := WL.not h1 h2 hk
theorem WL.c {call : CallF} (hc : CallOK P w0 call) (d : Option Nat) {f : FuncId} {args : List AV} {v : AV} {h1 h' : AHeap} (hcall : call f args h1 = some (.ret v, h')) (hk : WL P w0 m0 N ops (i + 1) Q (l.put d v) ds h') (h2 : dstN N ops i = some d := by kernel_rfl) (h3 : wantAt ops l.get i = some true := by kernel_rfl) (h4 : opAt P l.eval ops i h = some (.call f args, h1) := by kernel_rfl) : WL P w0 m0 N ops i Q l ds h := WL.call hc h2 h3 h4 hcall hk
theorem WL.n (hk : Go w0 m0 N (Q .normal) l ds h) (hi : Nat.beq ops.size i = true := by kernel_rfl) : WL P w0 m0 N ops i Q l ds h := WL.nil hi hk
theorem WD.a {call : CallF} {plan : List Nat} {rs : List Rec} (k : Nat) (d : Option Nat) (v : AV) (h' : AHeap) (hk : WD P w0 m0 N call ops plan (recsD k (recAt P ops i l h) rs) K (l.put d v) ds h') (h1 : dstN N ops i = some d := by kernel_rfl) (h2 : wantAt ops l.get i = some true := by kernel_rfl) (h3 : opAt P l.eval ops i h = some (.val v, h') := by kernel_rfl)
  (h4 : kindD P ops i = k := by kernel_rfl) (h5 : Nat.beq k 2 = false := by kernel_rfl) (h6 : Nat.beq k 9 = false := by kernel_rfl) : WD P w0 m0 N call ops (i :: plan) rs K l ds h :=
 WD.val h1 h2 h3 h4 (fun e => by subst e; cases h5) (fun e => by subst e; cases h6) hk
theorem WD.b {call : CallF} {plan : List Nat} {rs : List Rec} (k : Nat) (d : Option Nat) (v : AV) (h' : AHeap) (x : Y = some (.val v, h')) (hk : WD P w0 m0 N call ops plan (recsD k (recAt P ops i l h) rs) K (l.put d v) ds h') (h1 : dstN N ops i = some d := by kernel_rfl) (h2 : wantAt ops l.get i = some true := by kernel_rfl) (h3 : opAt P l.eval ops i h = Y := by kernel_rfl)
  (h4 : kindD P ops i = k := by kernel_rfl) (h5 : Nat.beq k 2 = false := by kernel_rfl) (h6 : Nat.beq k 9 = false := by kernel_rfl) : WD P w0 m0 N call ops (i :: plan) rs K l ds h :=
 WD.val h1 h2 (h3.trans x) h4 (fun e => by subst e; cases h5) (fun e => by subst e; cases h6) hk
theorem W.r {c : Code} (hk : WL P w0 m0 N (Code.ops c) 0 Q l ds h) (hc : Code.kind c = 7 := by kernel_rfl) : W P w0 m0 N c Q l ds h := W.region hc hk
theorem W.s {c : Code} (hk : ∀ K : Exit → Act → World → Prop, (∀ {ds : DefT} {l : Fr} {h : AHeap}, W P w0 m0 N (Code.p2 c) Q l ds h → Go w0 m0 N (K .normal) l ds h) →
  (∀ {id : Nat} {ds : DefT} {l : Fr} {h : AHeap}, Go w0 m0 N (Q (.exit id)) l ds h → Go w0 m0 N (K (.exit id)) l ds h) → (∀ {ds : DefT} {l : Fr} {h : AHeap}, Go w0 m0 N (Q .ret) l ds h → Go w0 m0 N (K .ret) l ds h) →
  (∀ {ds : DefT} {l : Fr} {v : AV} {h : AHeap}, Pan w0 m0 N Q l ds v h → Pan w0 m0 N K l ds v h) → W P w0 m0 N (Code.p1 c) K l ds h) (hc : Code.kind c = 1 := by kernel_rfl) : W P w0 m0 N c Q l ds h := W.seqK hc hk
theorem W.t {c : Code} (hk : W P w0 m0 N (Code.p1 c) Q l ds h) (hc : Code.kind c = 2 := by kernel_rfl) (hv : l.eval (Code.opd c) = some (.bool true) := by kernel_rfl) : W P w0 m0 N c Q l ds h := W.cond_true hc hv hk
theorem W.f {c : Code} (hk : W P w0 m0 N (Code.p2 c) Q l ds h) (hc : Code.kind c = 2 := by kernel_rfl) (hv : l.eval (Code.opd c) = some (.bool false) := by kernel_rfl) : W P w0 m0 N c Q l ds h := W.cond_false hc hv hk
end
theorem Fr.c {l l' : Fr} {t : Nat} {v : AV} (k : l.sub l') (h : l.get t = some v := by kernel_rfl) : l.sub ((t, v) :: l') := Fr.sub_cons h k
theorem Fr.n {l : Fr} : l.sub [] := Fr.sub_nil l
end
end Go.Proofs.Ytpnccmlajhhpdaa.Abs
namespace Go.Proofs.Ytpnccmlajhhpdaa.Abs
noncomputable section
open Go.RowKit
section
variable {P : Program} {w0 : Base} {m0 : Map} {N : Nat} {l l' : Fr} {ds : DefT} {h : AHeap} {Q : Exit → Act → World → Prop} {K : Act → World → Prop} {Y : OutT} {ops : Array Oper} {i : Nat} {r : ARes × AHeap} {call : CallF}
theorem oB (d : Nat) {x : Bool} {k : Bool → R} (z : lett x k = some r) (hk : ∀ t, k t = some r → WL P w0 m0 N ops (i + 1) Q (l.put (some d) (.bool t)) ds h) (h1 : dstN N ops i = some (some d) := by kernel_rfl) (h2 : wantAt ops l.get i = some true := by kernel_rfl) (h3 : opAt P l.eval ops i h = some (.val (.bool x), h) := by kernel_rfl) : WL P w0 m0 N ops i Q l ds h := WL.val h1 h2 h3 (hk x z)
theorem oI (d : Nat) (c : IntKind) {x : Int} {k : Int → R} (z : lett x k = some r) (hk : ∀ t, k t = some r → WL P w0 m0 N ops (i + 1) Q (l.put (some d) (.int c t)) ds h) (h1 : dstN N ops i = some (some d) := by kernel_rfl) (h2 : wantAt ops l.get i = some true := by kernel_rfl) (h3 : opAt P l.eval ops i h = some (.val (.int c x), h) := by kernel_rfl) : WL P w0 m0 N ops i Q l ds h := WL.val h1 h2 h3 (hk x z)
theorem oN (d : Nat) {x : AHeap} {k : AHeap → R} (z : lett x k = some r) (hk : ∀ h', k h' = some r → WL P w0 m0 N ops (i + 1) Q (l.put (some d) (newP h)) ds h') (h1 : dstN N ops i = some (some d) := by kernel_rfl) (h2 : wantAt ops l.get i = some true := by kernel_rfl) (h3 : opAt P l.eval ops i h = some (.val (newP h), x) := by kernel_rfl) : WL P w0 m0 N ops i Q l ds h := WL.val h1 h2 h3 (hk x z)
theorem oA (d : Nat) (v : AV) (hk : WL P w0 m0 N ops (i + 1) Q (l.put (some d) v) ds h) (h1 : dstN N ops i = some (some d) := by kernel_rfl) (h2 : wantAt ops l.get i = some true := by kernel_rfl) (h3 : opAt P l.eval ops i h = some (.val v, h) := by kernel_rfl) : WL P w0 m0 N ops i Q l ds h := WL.val h1 h2 h3 hk
theorem oW (t : TypeId) (v : AV) {n : Nat} {cs : List AV} {p : AV} {k : AHeap → R} (z : obind (stRow h n cs p) k = some r) (hk : ∀ h', k h' = some r → WL P w0 m0 N ops (i + 1) Q l ds h') (a0 : cs = v.cells := by kernel_rfl) (a1 : (P.info? t).isSome = true := by kernel_rfl) (a2 : P.cellsOf t = n := by kernel_rfl) (h1 : dstN N ops i = some none := by kernel_rfl) (h2 : wantAt ops l.get i = some true := by kernel_rfl) (h3 : opAt P l.eval ops i h = opStore P h t (some p) (some v) := by kernel_rfl) : WL P w0 m0 N ops i Q l ds h := by
 obtain ⟨h', e, z1⟩ := obind_some z
 subst a0
 exact WL.eff h1 h2 (h3.trans (store_row a1 a2 e)) (hk h' z1)
theorem oL (d t : Nat) {x : AV} {k : AV → R} (z : obind (ldCell h x) k = some r) (hk : ∀ v, k v = some r → WL P w0 m0 N ops (i + 1) Q (l.put (some d) v) ds h) (a1 : aggO P t = some false := by kernel_rfl) (h1 : dstN N ops i = some (some d) := by kernel_rfl) (h2 : wantAt ops l.get i = some true := by kernel_rfl) (h3 : opAt P l.eval ops i h = opLoad P h t (some x) := by kernel_rfl) : WL P w0 m0 N ops i Q l ds h := by
 obtain ⟨v, e, z1⟩ := obind_some z
 exact WL.val h1 h2 (h3.trans (load_cell a1 e)) (hk v z1)
theorem oLi (d t : Nat) {c : IntKind} {x : AV} {k : Int → R} (z : (obind (ldCell h x) fun v => obind (avInt c v) k) = some r) (hk : ∀ v, k v = some r → WL P w0 m0 N ops (i + 1) Q (l.put (some d) (.int c v)) ds h) (a1 : aggO P t = some false := by kernel_rfl) (h1 : dstN N ops i = some (some d) := by kernel_rfl) (h2 : wantAt ops l.get i = some true := by kernel_rfl) (h3 : opAt P l.eval ops i h = opLoad P h t (some x) := by kernel_rfl) : WL P w0 m0 N ops i Q l ds h := by
 obtain ⟨v, e, z1⟩ := obind_some z
 obtain ⟨n, c1, z2⟩ := obind_some z1
 have c2 := avInt_some c1
 subst c2
 exact WL.val h1 h2 (h3.trans (load_cell a1 e)) (hk n z2)
theorem oLb (d t : Nat) {x : AV} {k : Bool → R} (z : (obind (ldCell h x) fun v => obind (avBool v) k) = some r) (hk : ∀ v, k v = some r → WL P w0 m0 N ops (i + 1) Q (l.put (some d) (.bool v)) ds h) (a1 : aggO P t = some false := by kernel_rfl) (h1 : dstN N ops i = some (some d) := by kernel_rfl) (h2 : wantAt ops l.get i = some true := by kernel_rfl) (h3 : opAt P l.eval ops i h = opLoad P h t (some x) := by kernel_rfl) : WL P w0 m0 N ops i Q l ds h := by
 obtain ⟨v, e, z1⟩ := obind_some z
 obtain ⟨n, c1, z2⟩ := obind_some z1
 have c2 := avBool_some c1
 subst c2
 exact WL.val h1 h2 (h3.trans (load_cell a1 e)) (hk n z2)
theorem oLs (d t : Nat) {x : AV} {k : Bytes → R} (z : (obind (ldCell h x) fun v => obind (avStr v) k) = some r) (hk : ∀ v, k v = some r → WL P w0 m0 N ops (i + 1) Q (l.put (some d) (strA v)) ds h) (a1 : aggO P t = some false := by kernel_rfl) (h1 : dstN N ops i = some (some d) := by kernel_rfl) (h2 : wantAt ops l.get i = some true := by kernel_rfl) (h3 : opAt P l.eval ops i h = opLoad P h t (some x) := by kernel_rfl) : WL P w0 m0 N ops i Q l ds h := by
 obtain ⟨v, e, z1⟩ := obind_some z
 obtain ⟨n, c1, z2⟩ := obind_some z1
 have c2 := avStr_some c1
 subst c2
 exact WL.val h1 h2 (h3.trans (load_cell a1 e)) (hk n z2)
theorem oR (d t : Nat) {n : Nat} {x : AV} {k : List AV → R} (z : obind (ldRow h n x) k = some r) (hk : ∀ v, k v = some r → WL P w0 m0 N ops (i + 1) Q (l.put (some d) (.agg v)) ds h) (a1 : aggO P t = some true := by kernel_rfl) (a2 : P.cellsOf t = n := by kernel_rfl) (h1 : dstN N ops i = some (some d) := by kernel_rfl) (h2 : wantAt ops l.get i = some true := by kernel_rfl) (h3 : opAt P l.eval ops i h = opLoad P h t (some x) := by kernel_rfl) : WL P w0 m0 N ops i Q l ds h := by
 obtain ⟨v, e, z1⟩ := obind_some z
 exact WL.val h1 h2 (h3.trans (load_row a1 a2 e)) (hk v z1)
theorem oF (d s f : Nat) {off : Nat} {x : AV} {k : AV → R} (z : obind (fldP off x) k = some r) (hk : ∀ v, k v = some r → WL P w0 m0 N ops (i + 1) Q (l.put (some d) v) ds h) (a1 : (match P.underlying s with
  | some (.struct fs) => match fs[f]? with
   | some g => Nat.blt 0 (P.cellsOf g.type) && Nat.beq g.offset off
   | none => false
  | _ => false) = true := by kernel_rfl) (h1 : dstN N ops i = some (some d) := by kernel_rfl) (h2 : wantAt ops l.get i = some true := by kernel_rfl) (h3 : opAt P l.eval ops i h = opFieldAddr P h s f (some x) := by kernel_rfl) : WL P w0 m0 N ops i Q l ds h := by
 obtain ⟨v, e, z1⟩ := obind_some z
 exact WL.val h1 h2 (h3.trans (field_ptr a1 e)) (hk v z1)
theorem oX (d t : Nat) (c : IntKind) {s : Bytes} {j : Int} {k : Int → R} (z : obind (idxS s j) k = some r) (hk : ∀ v, k v = some r → WL P w0 m0 N ops (i + 1) Q (l.put (some d) (.int .u8 v)) ds h) (a1 : P.underlying t = some .string := by kernel_rfl) (h1 : dstN N ops i = some (some d) := by kernel_rfl) (h2 : wantAt ops l.get i = some true := by kernel_rfl) (h3 : opAt P l.eval ops i h = opIndex P h t (some (strA s)) (some (.int c j)) := by kernel_rfl) : WL P w0 m0 N ops i Q l ds h := by
 obtain ⟨v, e, z1⟩ := obind_some z
 exact WL.val h1 h2 (h3.trans (index_str a1 e)) (hk v z1)
theorem oP (d t e' : Nat) (c : IntKind) {sz : Nat} {x : AV} {j : Int} {k : AV → R} (z : obind (idxP sz x j) k = some r) (hk : ∀ v, k v = some r → WL P w0 m0 N ops (i + 1) Q (l.put (some d) v) ds h) (a1 : elemOf P t = some e' := by kernel_rfl) (a2 : (P.info? e').isSome = true := by kernel_rfl) (a3 : P.cellsOf e' = sz := by kernel_rfl) (h1 : dstN N ops i = some (some d) := by kernel_rfl) (h2 : wantAt ops l.get i = some true := by kernel_rfl) (h3 : opAt P l.eval ops i h = opIndexAddr P h t (some x) (some (.int c j)) := by kernel_rfl) : WL P w0 m0 N ops i Q l ds h := by
 obtain ⟨v, e, z1⟩ := obind_some z
 exact WL.val h1 h2 (h3.trans (index_row a1 a2 a3 e)) (hk v z1)
theorem oQ (d t e' : Nat) (c : IntKind) {n sz : Nat} {x : AV} {j : Int} {k : AV → R} (z : obind (idxA n sz x j) k = some r) (hk : ∀ v, k v = some r → WL P w0 m0 N ops (i + 1) Q (l.put (some d) v) ds h) (a1 : P.underlying t = some (.array n e') := by kernel_rfl) (a2 : (P.info? e').isSome = true := by kernel_rfl) (a3 : P.cellsOf e' = sz := by kernel_rfl) (h1 : dstN N ops i = some (some d) := by kernel_rfl) (h2 : wantAt ops l.get i = some true := by kernel_rfl) (h3 : opAt P l.eval ops i h = opIndexAddr P h t (some x) (some (.int c j)) := by kernel_rfl) : WL P w0 m0 N ops i Q l ds h := by
 obtain ⟨v, e, z1⟩ := obind_some z
 exact WL.val h1 h2 (h3.trans (index_arr a1 a2 a3 e)) (hk v z1)
theorem oC0 (d : Nat) {x : AV} {k : AV → R} (z : obind (nilC x) k = some r) (hk : ∀ v, k v = some r → WL P w0 m0 N ops (i + 1) Q (l.put (some d) v) ds h) (h1 : dstN N ops i = some (some d) := by kernel_rfl) (h2 : wantAt ops l.get i = some true := by kernel_rfl) (h3 : opAt P l.eval ops i h = opNil h (some x) := by kernel_rfl) : WL P w0 m0 N ops i Q l ds h := by
 obtain ⟨v, e, z1⟩ := obind_some z
 exact WL.val h1 h2 (h3.trans (nil_chk e)) (hk v z1)
theorem oM (d t e' : Nat) {x : AV} {k : Int → R} (z : obind (lenL x) k = some r) (hk : ∀ v, k v = some r → WL P w0 m0 N ops (i + 1) Q (l.put (some d) (.int .i64 v)) ds h) (a1 : P.underlying t = some (.slice e') := by kernel_rfl) (h1 : dstN N ops i = some (some d) := by kernel_rfl) (h2 : wantAt ops l.get i = some true := by kernel_rfl) (h3 : opAt P l.eval ops i h = opLen P h t x := by kernel_rfl) : WL P w0 m0 N ops i Q l ds h := by
 obtain ⟨v, e, z1⟩ := obind_some z
 exact WL.val h1 h2 (h3.trans (len_row a1 e)) (hk v z1)
theorem oE (d : Nat) {j : Nat} {x : AV} {k : AV → R} (z : obind (extT j x) k = some r) (hk : ∀ v, k v = some r → WL P w0 m0 N ops (i + 1) Q (l.put (some d) v) ds h) (h1 : dstN N ops i = some (some d) := by kernel_rfl) (h2 : wantAt ops l.get i = some true := by kernel_rfl) (h3 : opAt P l.eval ops i h = opExtract h j (some x) := by kernel_rfl) : WL P w0 m0 N ops i Q l ds h := by
 obtain ⟨v, e, z1⟩ := obind_some z
 exact WL.val h1 h2 (h3.trans (extract_tup e)) (hk v z1)
theorem oEi (d : Nat) {c : IntKind} {j : Nat} {x : AV} {k : Int → R} (z : (obind (extT j x) fun v => obind (avInt c v) k) = some r) (hk : ∀ v, k v = some r → WL P w0 m0 N ops (i + 1) Q (l.put (some d) (.int c v)) ds h) (h1 : dstN N ops i = some (some d) := by kernel_rfl) (h2 : wantAt ops l.get i = some true := by kernel_rfl) (h3 : opAt P l.eval ops i h = opExtract h j (some x) := by kernel_rfl) : WL P w0 m0 N ops i Q l ds h := by
 obtain ⟨v, e, z1⟩ := obind_some z
 obtain ⟨n, c1, z2⟩ := obind_some z1
 have c2 := avInt_some c1
 subst c2
 exact WL.val h1 h2 (h3.trans (extract_tup e)) (hk n z2)
theorem oEb (d : Nat) {j : Nat} {x : AV} {k : Bool → R} (z : (obind (extT j x) fun v => obind (avBool v) k) = some r) (hk : ∀ v, k v = some r → WL P w0 m0 N ops (i + 1) Q (l.put (some d) (.bool v)) ds h) (h1 : dstN N ops i = some (some d) := by kernel_rfl) (h2 : wantAt ops l.get i = some true := by kernel_rfl) (h3 : opAt P l.eval ops i h = opExtract h j (some x) := by kernel_rfl) : WL P w0 m0 N ops i Q l ds h := by
 obtain ⟨v, e, z1⟩ := obind_some z
 obtain ⟨n, c1, z2⟩ := obind_some z1
 have c2 := avBool_some c1
 subst c2
 exact WL.val h1 h2 (h3.trans (extract_tup e)) (hk n z2)
theorem oEs (d : Nat) {j : Nat} {x : AV} {k : Bytes → R} (z : (obind (extT j x) fun v => obind (avStr v) k) = some r) (hk : ∀ v, k v = some r → WL P w0 m0 N ops (i + 1) Q (l.put (some d) (strA v)) ds h) (h1 : dstN N ops i = some (some d) := by kernel_rfl) (h2 : wantAt ops l.get i = some true := by kernel_rfl) (h3 : opAt P l.eval ops i h = opExtract h j (some x) := by kernel_rfl) : WL P w0 m0 N ops i Q l ds h := by
 obtain ⟨v, e, z1⟩ := obind_some z
 obtain ⟨n, c1, z2⟩ := obind_some z1
 have c2 := avStr_some c1
 subst c2
 exact WL.val h1 h2 (h3.trans (extract_tup e)) (hk n z2)
theorem oEa (d : Nat) {j : Nat} {x : AV} {k : List AV → R} (z : (obind (extT j x) fun v => obind (avAgg v) k) = some r) (hk : ∀ v, k v = some r → WL P w0 m0 N ops (i + 1) Q (l.put (some d) (.agg v)) ds h) (h1 : dstN N ops i = some (some d) := by kernel_rfl) (h2 : wantAt ops l.get i = some true := by kernel_rfl) (h3 : opAt P l.eval ops i h = opExtract h j (some x) := by kernel_rfl) : WL P w0 m0 N ops i Q l ds h := by
 obtain ⟨v, e, z1⟩ := obind_some z
 obtain ⟨n, c1, z2⟩ := obind_some z1
 have c2 := avAgg_some c1
 subst c2
 exact WL.val h1 h2 (h3.trans (extract_tup e)) (hk n z2)
theorem oC (hc : SaysAll P call) (d : Option Nat) {f : FuncId} {args : List AV} {h1 : AHeap} {k : AV → AHeap → R} (z : callN (call f args h1) k = some r) (hk : ∀ v h', k v h' = some r → WL P w0 m0 N ops (i + 1) Q (l.put d v) ds h') (b1 : dstN N ops i = some d := by kernel_rfl) (b2 : wantAt ops l.get i = some true := by kernel_rfl) (b3 : opAt P l.eval ops i h = some (.call f args, h1) := by kernel_rfl) : WL P w0 m0 N ops i Q l ds h := by
 obtain ⟨v, h', e, z1⟩ := callN_some z
 exact WL.call (hc.ok w0) b1 b2 b3 e (hk v h' z1)
theorem oCi (hc : SaysAll P call) (d : Nat) {c : IntKind} {f : FuncId} {args : List AV} {h1 : AHeap} {k : Int → AHeap → R} (z : (callN (call f args h1) fun v h' => obind (avInt c v) fun n => k n h') = some r) (hk : ∀ v h', k v h' = some r → WL P w0 m0 N ops (i + 1) Q (l.put (some d) (.int c v)) ds h') (b1 : dstN N ops i = some (some d) := by kernel_rfl) (b2 : wantAt ops l.get i = some true := by kernel_rfl) (b3 : opAt P l.eval ops i h = some (.call f args, h1) := by kernel_rfl) : WL P w0 m0 N ops i Q l ds h := by
 obtain ⟨v, h', e, z1⟩ := callN_some z
 obtain ⟨n, c1, z2⟩ := obind_some z1
 have c2 := avInt_some c1
 subst c2
 exact WL.call (hc.ok w0) b1 b2 b3 e (hk n h' z2)
theorem oCb (hc : SaysAll P call) (d : Nat) {f : FuncId} {args : List AV} {h1 : AHeap} {k : Bool → AHeap → R} (z : (callN (call f args h1) fun v h' => obind (avBool v) fun n => k n h') = some r) (hk : ∀ v h', k v h' = some r → WL P w0 m0 N ops (i + 1) Q (l.put (some d) (.bool v)) ds h') (b1 : dstN N ops i = some (some d) := by kernel_rfl) (b2 : wantAt ops l.get i = some true := by kernel_rfl) (b3 : opAt P l.eval ops i h = some (.call f args, h1) := by kernel_rfl) : WL P w0 m0 N ops i Q l ds h := by
 obtain ⟨v, h', e, z1⟩ := callN_some z
 obtain ⟨n, c1, z2⟩ := obind_some z1
 have c2 := avBool_some c1
 subst c2
 exact WL.call (hc.ok w0) b1 b2 b3 e (hk n h' z2)
theorem oCs (hc : SaysAll P call) (d : Nat) {f : FuncId} {args : List AV} {h1 : AHeap} {k : Bytes → AHeap → R} (z : (callN (call f args h1) fun v h' => obind (avStr v) fun n => k n h') = some r) (hk : ∀ v h', k v h' = some r → WL P w0 m0 N ops (i + 1) Q (l.put (some d) (strA v)) ds h') (b1 : dstN N ops i = some (some d) := by kernel_rfl) (b2 : wantAt ops l.get i = some true := by kernel_rfl) (b3 : opAt P l.eval ops i h = some (.call f args, h1) := by kernel_rfl) : WL P w0 m0 N ops i Q l ds h := by
 obtain ⟨v, h', e, z1⟩ := callN_some z
 obtain ⟨n, c1, z2⟩ := obind_some z1
 have c2 := avStr_some c1
 subst c2
 exact WL.call (hc.ok w0) b1 b2 b3 e (hk n h' z2)
theorem oCa (hc : SaysAll P call) (d : Nat) {f : FuncId} {args : List AV} {h1 : AHeap} {k : List AV → AHeap → R} (z : (callN (call f args h1) fun v h' => obind (avAgg v) fun n => k n h') = some r) (hk : ∀ v h', k v h' = some r → WL P w0 m0 N ops (i + 1) Q (l.put (some d) (.agg v)) ds h') (b1 : dstN N ops i = some (some d) := by kernel_rfl) (b2 : wantAt ops l.get i = some true := by kernel_rfl) (b3 : opAt P l.eval ops i h = some (.call f args, h1) := by kernel_rfl) : WL P w0 m0 N ops i Q l ds h := by
 obtain ⟨v, h', e, z1⟩ := callN_some z
 obtain ⟨n, c1, z2⟩ := obind_some z1
 have c2 := avAgg_some c1
 subst c2
 exact WL.call (hc.ok w0) b1 b2 b3 e (hk n h' z2)
theorem oK (d : Nat) {x : OutT} {k : AV → AHeap → R} (z : outK x k = some r) (hk : ∀ v h', k v h' = some r → WL P w0 m0 N ops (i + 1) Q (l.put (some d) v) ds h') (b1 : dstN N ops i = some (some d) := by kernel_rfl) (b2 : wantAt ops l.get i = some true := by kernel_rfl) (b3 : opAt P l.eval ops i h = x := by kernel_rfl) : WL P w0 m0 N ops i Q l ds h := by
 obtain ⟨v, h', e, z1⟩ := outK_some z
 exact WL.val b1 b2 (b3.trans e) (hk v h' z1)
theorem oT {c : Code} {a b : R} (z : ifB true a b = some r) (hk : a = some r → W P w0 m0 N (Code.p1 c) Q l ds h) (hc : Code.kind c = 2 := by kernel_rfl) (hv : l.eval (Code.opd c) = some (.bool true) := by kernel_rfl) : W P w0 m0 N c Q l ds h := W.cond_true hc hv (hk z)
theorem oU {c : Code} {a b : R} (z : ifB false a b = some r) (hk : b = some r → W P w0 m0 N (Code.p2 c) Q l ds h) (hc : Code.kind c = 2 := by kernel_rfl) (hv : l.eval (Code.opd c) = some (.bool false) := by kernel_rfl) : W P w0 m0 N c Q l ds h := W.cond_false hc hv (hk z)
theorem oG {c : Code} (hk : ∀ {K : Exit → Act → World → Prop}, (∀ {ds : DefT} {l : Fr} {h : AHeap}, W P w0 m0 N (Code.p2 c) Q l ds h → Go w0 m0 N (K .normal) l ds h) → W P w0 m0 N (Code.p1 c) K l ds h) (hc : Code.kind c = 1 := by kernel_rfl) : W P w0 m0 N c Q l ds h := W.seqK hc fun _ n _ _ _ => hk n
theorem oH {c : Code} (hk : ∀ {K : Exit → Act → World → Prop}, (∀ {ds : DefT} {l : Fr} {h : AHeap}, W P w0 m0 N (Code.p2 c) Q l ds h → Go w0 m0 N (K .normal) l ds h) → (∀ {ds : DefT} {l : Fr} {h : AHeap}, Go w0 m0 N (Q .ret) l ds h → Go w0 m0 N (K .ret) l ds h) → W P w0 m0 N (Code.p1 c) K l ds h) (hc : Code.kind c = 1 := by kernel_rfl) : W P w0 m0 N c Q l ds h := W.seqK hc fun _ n _ q _ => hk n q
theorem oJ {c : Code} (hk : ∀ {K : Exit → Act → World → Prop}, (∀ {ds : DefT} {l : Fr} {h : AHeap}, W P w0 m0 N (Code.p2 c) Q l ds h → Go w0 m0 N (K .normal) l ds h) → (∀ {ds : DefT} {l : Fr} {v : AV} {h : AHeap}, Pan w0 m0 N Q l ds v h → Pan w0 m0 N K l ds v h) → W P w0 m0 N (Code.p1 c) K l ds h) (hc : Code.kind c = 1 := by kernel_rfl) : W P w0 m0 N c Q l ds h := W.seqK hc fun _ n _ _ p => hk n p
theorem oY {c : Code} (hk : Go w0 m0 N (Q .ret) l ds h) (hc : Code.kind c = 6 := by kernel_rfl) : W P w0 m0 N c Q l ds h := W.ret hc hk
theorem oZ {c : Code} (hk : Go w0 m0 N (Q .normal) l ds h) (hc : Code.kind c = 0 := by kernel_rfl) : W P w0 m0 N c Q l ds h := W.skip hc hk
theorem rT {g : Nat → Option AV} {t : Nat} {v : AV} {rs : List ResultVar} {vs : List AV} (k : resGs P g h rs = some vs) (e : g t = some v := by kernel_rfl) : resGs P g h (.tmp t :: rs) = some (v :: vs) := res_tmp e k
theorem rY {g : Nat → Option AV} {t ty n : Nat} {p : AV} {v : List AV} {rs : List ResultVar} {vs : List AV} (e2 : ldRow h n p = some v) (k : resGs P g h rs = some vs) (e : g t = some p := by kernel_rfl) (ha : aggO P ty = some true := by kernel_rfl) (hn : P.cellsOf ty = n := by kernel_rfl) : resGs P g h (.cell t ty :: rs) = some (.agg v :: vs) := res_cell e (load_row ha hn e2) k
theorem rC {g : Nat → Option AV} {t ty : Nat} {p v : AV} {rs : List ResultVar} {vs : List AV} (e2 : ldCell h p = some v) (k : resGs P g h rs = some vs) (e : g t = some p := by kernel_rfl) (ha : aggO P ty = some false := by kernel_rfl) : resGs P g h (.cell t ty :: rs) = some (v :: vs) := res_cell e (load_cell ha e2) k
theorem lZ {fn : Func} {v : AV} {rR : ARes} {hR : AHeap} (z : some (ARes.ret v, h) = some (rR, hR)) (rs : List ResultVar) (vs : List AV) (hv : resGs P l.get h rs = some vs) (hrs : fn.results.toList = rs := by kernel_rfl) (hr : retA h (some vs) = some (.ret v, h) := by kernel_rfl) : Go w0 m0 N (Fin P fn w0 m0 rR hR .ret) l [] h := by
 obtain ⟨e1, e2⟩ := ret_inj z
 subst e1
 subst e2
 exact leave_of hrs hv hr
theorem lY {fn : Func} {v : AV} {rR : ARes} {hR : AHeap} (z : some (ARes.ret v, h) = some (rR, hR)) (rs : List ResultVar) (vs : List AV) (hv : resGs P l.get h rs = some vs) (hrs : fn.results.toList = rs := by kernel_rfl) (hr : retA h (some vs) = some (.ret v, h) := by kernel_rfl) : Go w0 m0 N (Fin P fn w0 m0 rR hR .normal) l [] h := by
 obtain ⟨e1, e2⟩ := ret_inj z
 subst e1
 subst e2
 exact leaveN_of hrs hv hr
theorem oD {plan : List Nat} {rs : List Rec} (k : Nat) (d : Option Nat) (hk : WD P w0 m0 N call ops plan rs K (l.put d (.tup [])) ds h) (h1 : dstN N ops i = some d := by kernel_rfl) (h2 : wantAt ops l.get i = some false := by kernel_rfl) (h4 : kindD P ops i = k := by kernel_rfl) (h5 : Nat.beq k 2 = false := by kernel_rfl) (h6 : Nat.beq k 9 = false := by kernel_rfl) : WD P w0 m0 N call ops (i :: plan) rs K l ds h := WD.not h1 h2 h4 (fun e => by subst e; cases h5) (fun e => by subst e; cases h6) hk
theorem sub_of {l : Fr} : ∀ {l' : Fr}, l'.map (fun p => l.get p.1) = l'.map (fun p => some p.2) → l.sub l'
 | [], _ => Fr.sub_nil _
 | (t, v) :: l', h => by
  simp only [List.map_cons, List.cons.injEq] at h
  exact Fr.sub_cons h.1 (sub_of h.2)
theorem oV (l' : Fr) (hk : Go w0 m0 N (Q .normal) l' ds h) (hs : l'.map (fun p => l.get p.1) = l'.map (fun p => some p.2) := by kernel_rfl) (hi : Nat.beq ops.size i = true := by kernel_rfl) : WL P w0 m0 N ops i Q l ds h := WL.nil hi (Go.weaken (sub_of hs) hk)
theorem gW (l' : Fr) (hk : Go w0 m0 N K l' ds h) (hs : l'.map (fun p => l.get p.1) = l'.map (fun p => some p.2) := by kernel_rfl) : Go w0 m0 N K l ds h := Go.weaken (sub_of hs) hk
theorem wW {c : Code} (l' : Fr) (hk : W P w0 m0 N c Q l' ds h) (hs : l'.map (fun p => l.get p.1) = l'.map (fun p => some p.2) := by kernel_rfl) : W P w0 m0 N c Q l ds h := W.weaken (sub_of hs) hk
theorem lW (l' : Fr) (hk : WL P w0 m0 N ops i Q l' ds h) (hs : l'.map (fun p => l.get p.1) = l'.map (fun p => some p.2) := by kernel_rfl) : WL P w0 m0 N ops i Q l ds h := WL.weaken (sub_of hs) hk
theorem Pf {v : AV} {h' : AHeap} {fn : Func} {rR : ARes} {hR : AHeap} (q : (rR, hR) = (ARes.panic v, h')) : Pan w0 m0 N (Fin P fn w0 m0 rR hR) l [] v h' := by
 cases q
 exact Pan.fin
theorem oCK (hc : SaysAll P call) (d : Option Nat) {f : FuncId} {args : List AV} {h1 : AHeap} {k : AV → AHeap → R} (z : callK (call f args h1) k = some r) (hp : ∀ {v : AV} {h' : AHeap}, r = (.panic v, h') → Pan w0 m0 N Q l ds v h') (hk : ∀ v h', k v h' = some r → WL P w0 m0 N ops (i + 1) Q (l.put d v) ds h') (b1 : dstN N ops i = some d := by kernel_rfl) (b2 : wantAt ops l.get i = some true := by kernel_rfl) (b3 : opAt P l.eval ops i h = some (.call f args, h1) := by kernel_rfl) : WL P w0 m0 N ops i Q l ds h := by
 rcases callK_some z with ⟨v, h', e, z1⟩ | ⟨v, h', e, q⟩
 ·exact WL.call (hc.ok w0) b1 b2 b3 e (hk v h' z1)
 ·exact WL.callPanic (hc.ok w0) b1 b2 b3 e (hp q)
theorem sO {f : FuncId} {fn : Func} {args : List AV} {rR : ARes} {hR : AHeap} (hf : P.funcs[f]? = some fn) (hw : ∀ w0 m0, W P w0 m0 fn.ntmps (codeOf fn) (Fin P fn w0 m0 rR hR) (argsFr 0 args) [] h) (hb : fn.body = some (codeOf fn) := by kernel_rfl) (hlen : Nat.ble args.length fn.ntmps = true := by kernel_rfl) : Says P f args h rR hR := says_of hf hb hlen hw
end
structure Dec (α : Type) where
 dec : AV → Option α
 enc : α → AV
 ok : ∀ {x : AV} {a : α}, dec x = some a → x = enc a
 eq : ∀ a : α, dec (enc a) = some a
def Di (k : IntKind) : Dec Int := ⟨avInt k, .int k, avInt_some, avInt_int k⟩
def Ds : Dec Bytes := ⟨avStr, strA, avStr_some, avStr_str⟩
def Da : Dec (List AV) := ⟨avAgg, .agg, avAgg_some, avAgg_agg⟩
def Dv : Dec AV := ⟨some, fun x => x, fun h => by cases h; rfl, fun _ => rfl⟩
section
variable {α β γ δ ε ζ : Type} {P : Program} {id : FuncId} {h : AHeap}
def fn0 (F : AHeap → R) : FnT := fun args h => match args with
 | [] => F h
 | _ => none
theorem fn0_eq (F : AHeap → R) (h : AHeap) : fn0 F [] h = F h := rfl
theorem fn0_holds {F : AHeap → R} (k : ∀ {h r h'}, F h = some (r, h') → Says P id [] h r h') : Holds P id (fn0 F) := by
 intro args h r h2 e
 unfold fn0 at e
 split at e
 ·exact k e
 ·cases e
def fn1 (d0 : Dec α) (F : α → AHeap → R) : FnT := fun args h => match args with
 | [x0] => obind (d0.dec x0) fun a0 => F a0 h
 | _ => none
theorem fn1_eq (d0 : Dec α) (F : α → AHeap → R) (a0 : α) (h : AHeap) : fn1 d0 F [d0.enc a0] h = F a0 h := by
 unfold fn1
 dsimp only
 rw [d0.eq, obind_val]
theorem fn1_holds (d0 : Dec α) {F : α → AHeap → R} (k : ∀ {a0} {h r h'}, F a0 h = some (r, h') → Says P id [d0.enc a0] h r h') : Holds P id (fn1 d0 F) := by
 intro args h r h2 e
 unfold fn1 at e
 split at e
 ·replace e := obind_some e; obtain ⟨a0, c0, e⟩ := e; have c0 := d0.ok c0; subst c0
  exact k e
 ·cases e
def fn2 (d0 : Dec α) (d1 : Dec β) (F : α → β → AHeap → R) : FnT := fun args h => match args with
 | [x0, x1] => obind (d0.dec x0) fun a0 => obind (d1.dec x1) fun a1 => F a0 a1 h
 | _ => none
theorem fn2_eq (d0 : Dec α) (d1 : Dec β) (F : α → β → AHeap → R) (a0 : α) (a1 : β) (h : AHeap) : fn2 d0 d1 F [d0.enc a0, d1.enc a1] h = F a0 a1 h := by
 unfold fn2
 dsimp only
 rw [d0.eq, obind_val, d1.eq, obind_val]
theorem fn2_holds (d0 : Dec α) (d1 : Dec β) {F : α → β → AHeap → R} (k : ∀ {a0 a1} {h r h'}, F a0 a1 h = some (r, h') → Says P id [d0.enc a0, d1.enc a1] h r h') : Holds P id (fn2 d0 d1 F) := by
 intro args h r h2 e
 unfold fn2 at e
 split at e
 ·replace e := obind_some e; obtain ⟨a0, c0, e⟩ := e; have c0 := d0.ok c0; subst c0
  replace e := obind_some e; obtain ⟨a1, c1, e⟩ := e; have c1 := d1.ok c1; subst c1
  exact k e
 ·cases e
def fn3 (d0 : Dec α) (d1 : Dec β) (d2 : Dec γ) (F : α → β → γ → AHeap → R) : FnT := fun args h => match args with
 | [x0, x1, x2] => obind (d0.dec x0) fun a0 => obind (d1.dec x1) fun a1 => obind (d2.dec x2) fun a2 => F a0 a1 a2 h
 | _ => none
theorem fn3_eq (d0 : Dec α) (d1 : Dec β) (d2 : Dec γ) (F : α → β → γ → AHeap → R) (a0 : α) (a1 : β) (a2 : γ) (h : AHeap) : fn3 d0 d1 d2 F [d0.enc a0, d1.enc a1, d2.enc a2] h = F a0 a1 a2 h := by
 unfold fn3
 dsimp only
 rw [d0.eq, obind_val, d1.eq, obind_val, d2.eq, obind_val]
theorem fn3_holds (d0 : Dec α) (d1 : Dec β) (d2 : Dec γ) {F : α → β → γ → AHeap → R} (k : ∀ {a0 a1 a2} {h r h'}, F a0 a1 a2 h = some (r, h') → Says P id [d0.enc a0, d1.enc a1, d2.enc a2] h r h') : Holds P id (fn3 d0 d1 d2 F) := by
 intro args h r h2 e
 unfold fn3 at e
 split at e
 ·replace e := obind_some e; obtain ⟨a0, c0, e⟩ := e; have c0 := d0.ok c0; subst c0
  replace e := obind_some e; obtain ⟨a1, c1, e⟩ := e; have c1 := d1.ok c1; subst c1
  replace e := obind_some e; obtain ⟨a2, c2, e⟩ := e; have c2 := d2.ok c2; subst c2
  exact k e
 ·cases e
end
end
end Go.Proofs.Ytpnccmlajhhpdaa.Abs
