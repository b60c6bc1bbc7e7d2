/- Plain facts about the plain functions. -/
import Derived.Test.YtpnccmlajhhpdaaAbs24
namespace Go.Proofs.Ytpnccmlajhhpdaa.Abs
noncomputable section
open Go.RowKit

theorem wrap_signed {k : IntKind} (hk : k.signed = true) (x : Int) : k.wrap x = if x % (2 ^ k.bits : Int) ≥ (2 ^ (k.bits - 1) : Int) then x % (2 ^ k.bits : Int) - (2 ^ k.bits : Int) else x % (2 ^ k.bits : Int) := by
  simp [IntKind.wrap, hk]
theorem wrap_unsigned {k : IntKind} (hk : k.signed = false) (x : Int) : k.wrap x = x % (2 ^ k.bits : Int) := by
  simp [IntKind.wrap, hk]
theorem wrap_i64 {x : Int} (h1 : -9223372036854775808 ≤ x) (h2 : x < 9223372036854775808) : IntKind.i64.wrap x = x := by
  rw [wrap_signed rfl, show ((2 : Int) ^ IntKind.i64.bits) = 18446744073709551616 from rfl, show ((2 : Int) ^ (IntKind.i64.bits - 1)) = 9223372036854775808 from rfl]
  split <;> omega
theorem wrap_u8 {x : Int} (h1 : 0 ≤ x) (h2 : x < 256) : IntKind.u8.wrap x = x := by
  rw [wrap_unsigned rfl, show ((2 : Int) ^ IntKind.u8.bits) = 256 from rfl]
  omega
theorem wrap_u8_mod (x : Int) : IntKind.u8.wrap x = x % 256 := wrap_unsigned rfl x
theorem wrap_u64_mod (x : Int) : IntKind.u64.wrap x = x % 18446744073709551616 := wrap_unsigned rfl x
theorem wrap_u32_mod (x : Int) : IntKind.u32.wrap x = x % 4294967296 := wrap_unsigned rfl x
theorem idxS_nat {l : Bytes} {i : Nat} (h : i < l.length) : idxS l (i : Int) = some ((l[i]).toNat : Int) := by
  show (match l[i]? with | some b => some (b.toNat : Int) | none => none) = _
  rw [List.getElem?_eq_getElem h]
theorem sliceS_nat {l : Bytes} {a b : Nat} (h1 : a ≤ b) (h2 : b ≤ l.length) : sliceS l (a : Int) (b : Int) = some ((l.drop a).take (b - a)) := by
  show (match Nat.ble a b && Nat.ble b l.length with | true => some ((l.drop a).take (b - a)) | false => none) = _
  rw [Nat.ble_eq_true_of_le h1, Nat.ble_eq_true_of_le h2]
  rfl
theorem lenS_nat (l : Bytes) : lenS l = (l.length : Int) := rfl
theorem eqS_true {a b : Bytes} : eqS a b = true ↔ a = b := by rw [eqS_eq]; exact beq_iff_eq
theorem eqS_false {a b : Bytes} : eqS a b = false ↔ a ≠ b := by rw [eqS_eq]; simp
/-- of a byte as a number -/
theorem u8_int_lt (b : UInt8) : (b.toNat : Int) < 256 := by have := b.toNat_lt; omega
theorem above_new (h : AHeap) (e : TypeId) (l : List AV) : Above h (newH h e l) := (Above.refl h).newH e l
theorem get_newH (h : AHeap) (e : TypeId) (l : List AV) : (newH h e l).get h.next = some (rowOf l e) := get_new_same _
theorem cell_newH (h : AHeap) (e : TypeId) (l : List AV) (o : Nat) : ldCell (newH h e l) (.ptr h.next o) = l[o]? := by
  show cellGet (newH h e l) h.next o = _
  unfold cellGet
  rw [get_newH]
  exact rowOf_get l o
theorem extT_0 (x : AV) (l : List AV) : extT 0 (.tup (x :: l)) = some x := rfl
theorem extT_1 (x y : AV) (l : List AV) : extT 1 (.tup (x :: y :: l)) = some y := rfl
theorem extT_2 (x y z : AV) (l : List AV) : extT 2 (.tup (x :: y :: z :: l)) = some z := rfl
theorem wrap_nat_i64 {n : Nat} (h : n < 9223372036854775808) : IntKind.i64.wrap (n : Int) = n := wrap_i64 (by omega) (by omega)
theorem wrap_succ {n : Nat} (h : n + 1 < 9223372036854775808) : IntKind.i64.wrap ((n : Int) + 1) = ((n + 1 : Nat) : Int) := by rw [wrap_i64 (by omega) (by omega)]; omega
theorem wrap_sub {a b : Nat} (h : b ≤ a) (h2 : a < 9223372036854775808) : IntKind.i64.wrap ((a : Int) - b) = ((a - b : Nat) : Int) := by rw [wrap_i64 (by omega) (by omega)]; omega
theorem blt_self (n : Nat) : Nat.blt n n = false := by
  cases h : Nat.blt n n with
  | false => rfl
  | true => exact absurd (Nat.le_of_ble_eq_true h) (Nat.not_succ_le_self n)
/-- a new row is handed back -/
theorem gcR_sl {h h' : AHeap} {o n sz : Nat} : gcR h (some (.ret (.sl h.next o n sz), h')) = some (.ret (.sl h.next o n sz), h') := gcR_some (blt_self _)
theorem lt_true {a b : Int} (h : a < b) : decide (a < b) = true := decide_eq_true h
theorem lt_false {a b : Int} (h : b ≤ a) : decide (a < b) = false := decide_eq_false (Int.not_lt.2 h)
/-- a row of texts -/
theorem idxP_sl {sz b o n k : Nat} {i : Nat} (h : i < n) : idxP sz (.sl b o n k) (i : Int) = some (.ptr b (o + i * sz)) := by
  show (match Nat.blt i n with | true => some (AV.ptr b (o + i * sz)) | false => none) = _
  rw [show Nat.blt i n = true from Nat.ble_eq_true_of_le h]

/-- where a run of bytes ends -/
def tw (p : UInt8 → Bool) (l : Bytes) (i : Nat) : Nat := i + ((l.drop i).takeWhile p).length
theorem tw_end {p : UInt8 → Bool} {l : Bytes} {i : Nat} (h : l.length ≤ i) : tw p l i = i := by
  simp [tw, List.drop_eq_nil_of_le h]
theorem tw_step {p : UInt8 → Bool} {l : Bytes} {i : Nat} (h : i < l.length) : tw p l i = if p l[i] = true then tw p l (i + 1) else i := by
  unfold tw
  rw [List.drop_eq_getElem_cons h, List.takeWhile_cons]
  split
  · simp only [List.length_cons]; omega
  · simp
theorem tw_ge (p : UInt8 → Bool) (l : Bytes) (i : Nat) : i ≤ tw p l i := Nat.le_add_right _ _
theorem tw_le {p : UInt8 → Bool} {l : Bytes} {i : Nat} (h : i ≤ l.length) : tw p l i ≤ l.length := by
  unfold tw
  have h1 := (List.takeWhile_prefix (l := l.drop i) p).length_le
  rw [List.length_drop] at h1
  omega
theorem tw_all {p : UInt8 → Bool} {l : Bytes} : tw p l 0 = l.length ↔ l.all p = true := by
  unfold tw
  simp only [List.drop_zero, Nat.zero_add, List.all_eq_true]
  induction l with
  | nil => simp
  | cons b l ih =>
    rw [List.takeWhile_cons]
    by_cases hb : p b = true
    · simp only [hb, if_true, List.length_cons, Nat.add_right_cancel_iff, ih]
      simp [hb]
    · simp [hb]
/-- a call of a function value, in a drawn region -/
theorem WD.dyn {P : Program} {w0 : Base} {m0 : Map} {N : Nat} {l : Fr} {ds : DefT} {h h' : AHeap} {K : Act → World → Prop} {call : CallF} {ops : Array Oper} {i : Nat} {plan : List Nat} {rs : List Rec} {d : Option Nat} {f v : AV} {args : List AV} {k : Nat} (hd : dstN N ops i = some d) (hw : wantAt ops l.get i = some true) (hop : opAt P l.eval ops i h = callV P h args (some f))
    (hcall : dynC P call f args h = some (.ret v, h'))
    (hkind : kindD P ops i = k) (hrec : k = 2 → allRec (recOk P ops i ⟨(l.put d v).tree, ds⟩ h') rs = true) (hk9 : k ≠ 9)
    (hk : WD P w0 m0 N call ops plan (recsD k (recAt P ops i l h) rs) K (l.put d v) ds h') : WD P w0 m0 N call ops (i :: plan) rs K l ds h := by
  rcases dynC_some hcall with ⟨g, as, h1, e1, e2⟩ | ⟨v1, h1, e1, e2⟩
  · exact WD.call hd hw (hop.trans e1) e2 hkind hrec hk9 hk
  · cases e2
    exact WD.val hd hw (hop.trans e1) hkind hrec hk9 hk
end
end Go.Proofs.Ytpnccmlajhhpdaa.Abs
