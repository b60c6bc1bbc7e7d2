/- What lexLines_proved stands on, part 5 of 8. -/
import Derived.Test.YtjopejiooipmkaaLtb4
import Derived.Test.YtjopejiooipmkaaRows
import Derived.WalkKit
import Derived.ProofKit
import Derived.OpenShut
import Derived.SizedLaws
import Derived.SliceStrings
namespace Go.Proofs.Ytjopejiooipmkaa
open Go.ChangeShapes Go.WideShapes Go.ChangeAt Go.RowKit
open Go.ChangeMaps (open_string shut_string)

theorem Try.own : ownKnob Try.prog.godebug = none := by kernel_rfl
theorem Try.laidOut : laidOutB Try.prog = true := by kernel_rfl

section
variable {H : Type} {enc : TypeId × Value → H}

theorem stays {P : Program} (hP : laidOutB P = true) {W W' : World} (hb : Below W.heap.size W W') (ts : List TypeId) : ∀ (vs : List Value) (ds : List (DataW H)) (ps : List MemPlace),
  DataW.TrodAll enc P W 0 (fun _ => true) true ts vs ds ps → (∀ t ∈ ts, P.readableRec t = true ∧ t < P.types.size) → (∀ x ∈ ps, x.block < W.heap.size) →
  DataW.TrodAll enc P W' 0 (fun b => decide (b < W.heap.size)) true ts vs ds ps := by
 induction ts with
 | nil =>
  intro vs ds ps h _ _
  obtain ⟨rfl, rfl, rfl⟩ := trodAll_nil h
  exact trodAll_mk0
 | cons t ts ih =>
  intro vs ds ps h hr hlt
  obtain ⟨v, vs', d, ds', p, q, rfl, rfl, rfl, h1, h2⟩ := trodAll_cons h
  obtain ⟨hr1, hr2⟩ := hr t (List.mem_cons_self ..)
  exact trodAll_cons_mk (Below.trod hP hr1 hr2 h1 hb (fun x hx => hlt x (List.mem_append_left _ hx))) (ih _ _ _ h2 (fun t ht => hr t (List.mem_cons_of_mem _ ht)) (fun x hx => hlt x (List.mem_append_right _ hx)))

theorem readable_of {P : Program} {ts : List TypeId} (h : (ts.all fun t => P.readableRec t && decide (t < P.types.size)) = true) : ∀ t ∈ ts, P.readableRec t = true ∧ t < P.types.size := by
 intro t ht
 have h1 := List.all_eq_true.1 h t ht
 rw [Bool.and_eq_true] at h1
 exact ⟨h1.1, of_decide_eq_true h1.2⟩

set_option maxRecDepth 100000 in
/-- The walk of a law is enough. -/
theorem lifted_of {f : FuncId} {fn : Func} {s : ChangeSpec} (hfn : Try.prog.funcs[f]? = some fn) (noInit : Try.prog.inits.idxOf? f = none) (hvars : s.vars = []) (hres : fn.resultTypes = #[4])
  (hread : (fn.params.toList.all fun t => Try.prog.readableRec t && decide (t < Try.prog.types.size)) = true)
  (hspec : ∀ (args : List Value) (ds : List (DataW H)) (W : World) (p : List MemPlace), DataW.TrodAll enc Try.prog W 0 (fun _ => true) true fn.params.toList args ds p → (s.fn H (ds ++ [])).results = [.lit (.bool true)] ∧ (s.fn H (ds ++ [])).args = ds ∧ (s.fn H (ds ++ [])).vars = [])
  (hplain : s.plain.varTypes Try.prog = [])
  (os : Os) (started : os.Started)
  (witness : ∃ (w : World) (tape : Tape) (i : Input), w.os = os ∧ (w.forCall tape i).Shaped Try.prog ∧ i.vars = [] ∧ Input.okWide Try.prog (w.forCall tape i) .any w.heap.size f i ∧
   s.pre6 enc Try.prog fn [] false (w.forCall tape i).memory i.args ∧ ({} : Assume).holds Try.prog (lone (Frame.enter Try.prog f i.args .normal) [] (w.forCall tape i)))
  (walk : ∀ (W : World) (args : Array Value) (ds : List (DataW H)) (p : List MemPlace), (∀ (j : Nat) t v, fn.params[j]? = some t → args[j]? = some v → ∃ base, Value.okWide Try.prog W .any base t v) →
   DataW.TrodAll enc Try.prog W 0 (fun _ => true) true fn.params.toList args.toList ds p → (∀ x ∈ p, x.block < W.heap.size) →
   (DataW.weightsEach Try.prog fn.params.toList ds).all (· ≤ reachBytes) = true →
   Calls Try.prog f args W fun e W' => e = .returned (.bool true) ∧ Below W.heap.size W W') :
  ReturnsInHanded {} Try.checked os f .any (s.pre6 enc Try.prog fn [] false) (s.post enc Try.prog fn false true false false) := by
 refine returnsInHanded_of_change_sized (C := Try.checked) Try.own started noInit hfn witness ?_
 intro W base args ds gs before hval hW _ hsz0 _
 have hW' := hW
 obtain ⟨p, q, hA0, hV, rfl, _, _⟩ := hW
 have hA : DataW.TrodAll enc Try.prog W 0 (fun _ => true) true fn.params.toList args.toList ds p := hA0
 rw [hvars] at hV hW'
 obtain ⟨rfl, rfl⟩ := trodVars_none hV
 simp only [List.append_nil] at hW'
 have hlt : ∀ x ∈ p, x.block < W.heap.size := fun x hx => by simpa using hW'.lt x hx
 have hsz : (DataW.weightsEach Try.prog fn.params.toList ds).all (· ≤ reachBytes) = true := by
  have h := hsz0
  rw [show s.plain.varTypes Try.checked.prog = [] from hplain] at h
  simp only [List.append_nil] at h
  exact h
 obtain ⟨er, ea, ev⟩ := hspec args.toList ds W p hA
 refine (walk W args ds p (fun j t v h1 h2 => ⟨base, hval j t v h1 h2⟩) hA hlt hsz).mono fun e W' ⟨he, hb⟩ => ?_
 subst he
 refine ⟨_, rfl, ds, [], p, [], p, [], ?_, ?_, ?_, ?_, hb.frame _, fun h => by cases h⟩
 ·rw [hvars]; exact hW'
 ·rw [er, hres]; exact trodAll_mk1 (shut_bool Try.underlying4 _)
 ·rw [ea]; exact stays Try.laidOut hb _ _ _ _ hA (readable_of hread) hlt
 ·rw [ev, hvars]; trivial

end

end Go.Proofs.Ytjopejiooipmkaa

namespace Go.Proofs.Ytjopejiooipmkaa
open Go.RowKit Abs
set_option maxRecDepth 100000 in
theorem works_run : came (.ret (.bool true)) (callA Try.prog (Memo.spec Try.prog 5000 []) 5000 30 7 [] ⟨0, [70], .e⟩) = true := by kernel_rfl
theorem works_holds : Holds Try.prog 7 (constF (.ret (.bool true))) :=
 constF_holds (fun h => Memo.says (by kernel_rfl) Memo.ok_nil (by kernel_rfl) (by kernel_rfl) works_run h)
end Go.Proofs.Ytjopejiooipmkaa

namespace Go.Proofs.Ytjopejiooipmkaa.Abs
noncomputable section
open Go.RowKit

/-- it comes to something of which Q holds -/
def Wp (x : R) (Q : ARes → AHeap → Prop) : Prop := ∃ r h, x = some (r, h) ∧ Q r h
section
variable {α β : Type} {Q Q' : ARes → AHeap → Prop} {r : ARes} {h h1 : AHeap} {v : AV} {x y : R} {b : Bool}
theorem Wp.ret (hq : Q r h) : Wp (some (r, h)) Q := ⟨r, h, rfl, hq⟩
theorem Wp.mono (k : Wp x Q) (hq : ∀ r h, Q r h → Q' r h) : Wp x Q' := by
 obtain ⟨r, h, e, q⟩ := k
 exact ⟨r, h, e, hq r h q⟩
theorem Wp.eq (k : Wp x fun r' h' => r' = r ∧ h' = h) : x = some (r, h) := by
 obtain ⟨_, _, e, rfl, rfl⟩ := k
 exact e
theorem Wp.ex {Q : AHeap → Prop} (k : Wp x fun r' h' => r' = r ∧ Q h') : ∃ h', x = some (r, h') ∧ Q h' := by
 obtain ⟨_, h', e, rfl, q⟩ := k
 exact ⟨h', e, q⟩
theorem Wp.lett {v : α} {k : α → R} (hk : Wp (k v) Q) : Wp (lett v k) Q := hk
theorem Wp.lettw {v : Int} {k : Int → R} (h1 : -9223372036854775808 ≤ v) (h2 : v < 9223372036854775808) (hk : Wp (k v) Q) : Wp (Abs.lett (IntKind.i64.wrap v) k) Q := by
 rw [wrap_i64 h1 h2]
 exact hk
theorem Wp.lettu8 {v : Int} {k : Int → R} (h1 : 0 ≤ v) (h2 : v < 256) (hk : Wp (k v) Q) : Wp (Abs.lett (IntKind.u8.wrap v) k) Q := by
 rw [wrap_u8 h1 h2]
 exact hk
theorem Wp.join0 {F : AHeap → R} {G : (AHeap → R) → R} (hk : ∀ k, k = F → Wp (G k) Q) : Wp (Abs.lett F G) Q := hk F rfl
theorem Wp.join1 {F : α → AHeap → R} {G : (α → AHeap → R) → R} (hk : ∀ k, k = F → Wp (G k) Q) : Wp (Abs.lett F G) Q := hk F rfl
theorem Wp.go0 {k F : AHeap → R} (e : k = F) (hk : Wp (F h) Q) : Wp (k h) Q := by rw [e]; exact hk
theorem Wp.go1 {k F : α → AHeap → R} {a : α} (e : k = F) (hk : Wp (F a h) Q) : Wp (k a h) Q := by rw [e]; exact hk
theorem Wp.obind {o : Option α} {a : α} {k : α → R} (e : o = some a) (hk : Wp (k a) Q) : Wp (Abs.obind o k) Q := by rw [e]; exact hk
theorem Wp.ift (e : b = true) (hk : Wp x Q) : Wp (ifB b x y) Q := by rw [e]; exact hk
theorem Wp.iff (e : b = false) (hk : Wp y Q) : Wp (ifB b x y) Q := by rw [e]; exact hk
theorem Wp.ifc (ht : b = true → Wp x Q) (hf : b = false → Wp y Q) : Wp (ifB b x y) Q := by
 cases b with
 | true => exact ht rfl
 | false => exact hf rfl
theorem Wp.outK {o : OutT} {k : AV → AHeap → R} (e : o = some (.val v, h1)) (hk : Wp (k v h1) Q) : Wp (Abs.outK o k) Q := by rw [e]; exact hk
theorem Wp.callN {k : AV → AHeap → R} (e : x = some (.ret v, h1)) (hk : Wp (k v h1) Q) : Wp (Abs.callN x k) Q := by rw [e]; exact hk
theorem Wp.callK {k : AV → AHeap → R} (e : x = some (.ret v, h1)) (hk : Wp (k v h1) Q) : Wp (Abs.callK x k) Q := by rw [e]; exact hk
theorem Wp.callP {k : AV → AHeap → R} (e : x = some (.panic v, h1)) (hq : Q (.panic v) h1) : Wp (Abs.callK x k) Q := by rw [e]; exact ⟨_, _, rfl, hq⟩
theorem Wp.chk (e : b = true) (hk : Wp x Q) : Wp (Abs.chk b x) Q := by rw [e]; exact hk
/-- plain values: memory is as it was -/
theorem Wp.gc (hx : Wp x fun r h' => Above h h' ∧ r.val.scal = true ∧ Q r h) : Wp (gcR h x) Q := by
 obtain ⟨r, h', e, ha, hv, q⟩ := hx
 rw [e, gcR_scal ha hv]
 exact ⟨_, _, rfl, q⟩
/-- what is handed back may be new, or plain -/
theorem Wp.gc2 (hx : Wp x fun r h' => Q r h' ∧ (Above h h' → r.val.lo h.next = true → Q r h)) : Wp (gcR h x) Q := by
 obtain ⟨r, h', e, q1, q2⟩ := hx
 rw [e]
 unfold gcR
 split
 ·rename_i e2
  simp only [Option.some.injEq, Prod.mk.injEq] at e2
  obtain ⟨rfl, rfl⟩ := e2
  split
  ·rename_i hc
   exact ⟨_, _, rfl, q2 hc.1 hc.2⟩
  ·exact ⟨_, _, rfl, q1⟩
 ·rename_i e2
  cases e2
end
theorem sliceS_int {l : Bytes} {a b : Int} (h0 : 0 ≤ a) (h1 : a ≤ b) (h2 : b ≤ (l.length : Int)) : sliceS l a b = some ((l.drop a.toNat).take (b.toNat - a.toNat)) := by
 obtain ⟨n, rfl⟩ := Int.eq_ofNat_of_zero_le h0
 obtain ⟨m, rfl⟩ := Int.eq_ofNat_of_zero_le (Int.le_trans h0 h1)
 exact sliceS_nat (by omega) (by omega)
theorem addS_val {a b : Bytes} (h : a.length + b.length ≤ 1000000000) : addS a b = some (a ++ b) := by
 unfold addS
 rw [Nat.ble_eq_true_of_le h]
theorem nilC_ptr (b o : Nat) : nilC (.ptr b o) = some (.ptr b o) := rfl
theorem fldP_ptr (f b o : Nat) : fldP f (.ptr b o) = some (.ptr b (o + f)) := rfl
theorem newP_eq (h : AHeap) : newP h = .ptr h.next 0 := rfl

theorem bne_t {a b : Int} (h : a ≠ b) : (a != b) = true := by simp [h]
theorem bne_f {a b : Int} (h : a = b) : (a != b) = false := by simp [h]
theorem beq_t {a b : Int} (h : a = b) : (a == b) = true := by simp [h]
theorem beq_f {a b : Int} (h : a ≠ b) : (a == b) = false := by simp [h]
section
variable {Q : ARes → AHeap → Prop} {h : AHeap} {b o n : Nat} {e : TypeId} {l vs : List AV} {v : AV} {K : AHeap → R}
/-- a store into a row that is known -/
theorem Wp.st1 (k : RowH h b e l) (ho : o < l.length) (h1 : v.one = true) (hk : ∀ h', RowH h' b e (l.set o v) → Tch [b] h h' → h'.next = h.next → Wp (K h') Q) : Wp (Abs.obind (stRow h 1 [v] (.ptr b o)) K) Q := by
 obtain ⟨h', e1, e2, e3, e4, e5⟩ := k.st1 ho h1
 exact Wp.obind e1 (hk h' e2 (tch_of e3 e4 e5 (.inl (by simp))) e3)
theorem Wp.stAll (k : RowH h b e l) (hn : vs.length = n) (hl : l.length = n) (h1 : vs.all AV.one = true) (hk : ∀ h', RowH h' b e vs → Tch [b] h h' → h'.next = h.next → Wp (K h') Q) : Wp (Abs.obind (stRow h n vs (.ptr b 0)) K) Q := by
 obtain ⟨h', e1, e2, e3, e4, e5⟩ := k.stAll hn hl h1
 exact Wp.obind e1 (hk h' e2 (tch_of e3 e4 e5 (.inl (by simp))) e3)
end

section
variable {P : Program} {e sz lo : Nat} {h h' : AHeap} {v x : AV} {rows : List (List AV)} {r : List AV} {t u : TypeId} {S : List Nat}
end
end
end Go.Proofs.Ytjopejiooipmkaa.Abs

namespace Go.Proofs.Ytjopejiooipmkaa.Abs
noncomputable section
open Go.RowKit

/-- a builder's buffer, in block c (or none yet: c is the builder's own block then) -/
def BuB (U8 : TypeId) (h : AHeap) (b c : Nat) (buf : AV) (l : Bytes) : Prop :=
 (buf = .nsl ∧ l = [] ∧ c = b) ∨ (buf = .sl c 0 l.length 1 ∧ l ≠ [] ∧ c ≠ b ∧ c < h.next ∧ RowH h c U8 (bytesC l))
def BldR (TB U8 : TypeId) (h : AHeap) (b c : Nat) (l : Bytes) : Prop :=
 ∃ a buf, RowH h b TB [a, buf] ∧ b < h.next ∧ (a = .nilp ∨ a = .ptr b 0) ∧ BuB U8 h b c buf l
section
variable {P : Program} {TB U8 : TypeId} {h h' : AHeap} {b c : Nat} {buf : AV} {l : Bytes} {S : List Nat}
theorem BuB.one (k : BuB U8 h b c buf l) : buf.one = true ∧ AV.cells buf = [buf] ∧ lenL buf = some (l.length : Int) := by
 rcases k with ⟨rfl, rfl, _⟩ | ⟨rfl, _⟩ <;> exact ⟨rfl, rfl, rfl⟩
theorem BuB.tch (k : BuB U8 h b c buf l) (ht : Tch S h h') (hS : c ≠ b → c ∉ S) : BuB U8 h' b c buf l := by
 rcases k with k | ⟨h1, h2, h3, h4, h5⟩
 ·exact .inl k
 ·exact .inr ⟨h1, h2, h3, by have := ht.1; omega, h5.tch ht h4 (hS h3)⟩
theorem BldR.tch (k : BldR TB U8 h b c l) (ht : Tch S h h') (hb : b ∉ S) (hc : c ∉ S) : BldR TB U8 h' b c l := by
 obtain ⟨a, buf, k1, k2, k3, k4⟩ := k
 exact ⟨a, buf, k1.tch ht k2 hb, by have := ht.1; omega, k3, k4.tch ht fun _ => hc⟩
theorem BldR.new (TB U8 : TypeId) (h : AHeap) : BldR TB U8 (newH h TB [.nilp, .nsl]) h.next h.next [] :=
 ⟨_, _, RowH.new h TB [.nilp, .nsl], Nat.lt_succ_self _, .inl rfl, .inl ⟨rfl, rfl, rfl⟩⟩
theorem BldR.lt (k : BldR TB U8 h b c l) : b < h.next ∧ c < h.next := by
 obtain ⟨a, buf, k1, k2, k3, k4⟩ := k
 rcases k4 with ⟨_, _, rfl⟩ | ⟨_, _, _, k5, _⟩
 ·exact ⟨k2, k2⟩
 ·exact ⟨k2, k5⟩
end
/-- one byte more -/
theorem BuB.append1 {P : Program} {U8 : TypeId} {h : AHeap} {b c : Nat} {buf x : AV} {l : Bytes} {t u : TypeId} (k : BuB U8 h b c buf l) (hb : b < h.next) (y : UInt8) (he : elemOf P t = some U8) (hu : notInt P u = true) (hsz : P.cellsOf U8 = 1) (hfit : fitB P U8 1 = true) (hex : memB U8 h.ex = false) (hx : lenA x = some 1) (hf : firstA h 1 1 x = some (bytesC [y])) (hbig : l.length + 1 ≤ 1000000000) :
  ∃ buf' c' h', opAppend P h t u buf x = some (.val buf', h') ∧ BuB U8 h' b c' buf' (l ++ [y]) ∧ (c' = c ∨ h.next ≤ c') ∧ Tch [c] h h' ∧ h'.get b = h.get b := by
 rcases k with ⟨rfl, rfl, rfl⟩ | ⟨rfl, k0, k1, k2, k3⟩
 ·have e2 := append_new (P := P) (h := h) (t := t) (u := u) (n := 0) (x := x) he hu hsz hx hf (bytesFit_of hfit (by omega) (by omega)) (bytesC_one _) hex
  refine ⟨_, h.next, _, e2, .inr ⟨by simp, by simp, by omega, Nat.lt_succ_self _, ?_⟩, .inr (Nat.le_refl _), Tch.newH _ _ _ _, get_new_other _ (by omega)⟩
  rw [List.nil_append]
  exact RowH.new _ _ _
 ·have e2 := append_more (P := P) (h := h) (t := t) (u := u) (b := c) (o := 0) (m := l.length) (x := x) (n := 0) (cs := bytesC l) he hu hsz hx hf (bytesFit_of hfit (by omega) (by omega)) (bytesC_one _) hex (by
   have := k3.part (o := 0) (n := (bytesC l).length) (by omega)
   rw [List.drop_zero, List.take_length, bytesC_length] at this
   rw [Nat.mul_one]
   exact this) k3.type
  have t1 : Tch [c] h (h.put c .dead) := Tch.put (.inl (by simp)) _
  refine ⟨_, h.next, _, e2, .inr ⟨by simp, by simp, by omega, Nat.lt_succ_self _, ?_⟩, .inr (Nat.le_refl _), t1.trans (Tch.new _ _ _), ?_⟩
  ·rw [bytesC_append]
   exact RowH.new (h.put c .dead) U8 _
  ·exact (get_new_other (H := h.put c .dead) _ (show h.next ≠ b by omega)).trans (get_put_other _ k1)
end
end Go.Proofs.Ytjopejiooipmkaa.Abs

namespace Go.Proofs.Ytjopejiooipmkaa.Abs
noncomputable section
open Go.RowKit

def kindV : AV → Nat
 | .bool _ => 0
 | .int _ _ => 1
 | .str _ _ => 2
 | _ => 9
def kindT (P : Program) (t : TypeId) : Nat := match P.underlying t with
 | some .bool => 0
 | some (.int _) => 1
 | some .string => 2
 | _ => 8
def fieldsFlat (P : Program) : List Field → List Nat → Nat → Bool
 | [], [], _ => true
 | f :: fs, k :: ks, o => (f.name != "_") && Nat.beq f.offset o && Nat.beq (kindT P f.type) k && fieldsFlat P fs ks (o + 1)
 | _, _, _ => false
def eqCell : AV → AV → Option Bool
 | .bool a, .bool b => some (a == b)
 | .int k a, .int k' b => if k = k' then some (a == b) else none
 | .str n a, .str m b => some (Nat.beq n m && Nat.beq a b)
 | _, _ => none
def eqL : List Nat → List AV → List AV → Option Bool
 | [], [], [] => some true
 | k :: ks, x :: xs, y :: ys => if kindV x = k then match eqCell x y with
  | some true => eqL ks xs ys
  | r => r else none
 | _, _, _ => none
section
variable {P : Program}
theorem eqA_cell {d : Nat} {t : TypeId} {x y : AV} {b : Bool} (hk : kindV x = kindT P t) (he : eqCell x y = some b) : eqA P (d + 1) t x y = some b := by
 unfold kindT at hk
 unfold eqA
 cases hu : P.underlying t with
 | none => rw [hu] at hk; cases x <;> simp [kindV] at hk
 | some u =>
  rw [hu] at hk
  cases u <;> cases x <;> simp [kindV] at hk <;> cases y <;> simp [eqCell] at he <;> simp_all
theorem partA_cell {t : TypeId} {l : List AV} {o : Nat} {x : AV} (hk : kindT P t < 3) (hx : l[o]? = some x) : partA P t l o = some x := by
 unfold kindT at hk
 unfold partA
 cases hu : P.underlying t with
 | none => rw [hu] at hk; simp at hk
 | some u =>
  rw [hu] at hk
  cases u <;> simp at hk <;> simp [aggO, hu, isRowD, hx]
theorem kind_lt {x y : AV} {b : Bool} (he : eqCell x y = some b) : kindV x < 3 := by
 cases x <;> cases y <;> simp [eqCell] at he <;> simp [kindV]
theorem eqFields_flat : ∀ (fs : List Field) (ks : List Nat) (o d : Nat) (xs ys px py : List AV) (b : Bool), fieldsFlat P fs ks o = true → px.length = o → py.length = o → eqL ks xs ys = some b → fs.length < d → eqFields P (d + 1) fs (px ++ xs) (py ++ ys) = some b
 | [], ks, o, d, xs, ys, px, py, b, hf, _, _, he, _ => by
  cases ks with
  | cons k ks => simp [fieldsFlat] at hf
  | nil =>
   cases xs <;> cases ys <;> simp [eqL] at he
   subst he
   rfl
 | f :: fs, ks, o, d, xs, ys, px, py, b, hf, hx, hy, he, hd => by
  cases ks with
  | nil => simp [fieldsFlat] at hf
  | cons k ks =>
   cases xs with
   | nil => simp [eqL] at he
   | cons x xs =>
    cases ys with
    | nil => simp [eqL] at he
    | cons y ys =>
     simp only [fieldsFlat, Bool.and_eq_true] at hf
     obtain ⟨⟨⟨h1, h2⟩, h3⟩, h4⟩ := hf
     have h1 : ¬ f.name = "_" := by simpa using h1
     have h2 := Nat.eq_of_beq_eq_true h2
     have h3 := Nat.eq_of_beq_eq_true h3
     simp only [eqL] at he
     split at he
     ·rename_i hk
      have hlx : (px ++ x :: xs)[o]? = some x := by rw [List.getElem?_append_right (by omega), hx, Nat.sub_self]; rfl
      have hly : (py ++ y :: ys)[o]? = some y := by rw [List.getElem?_append_right (by omega), hy, Nat.sub_self]; rfl
      obtain ⟨d', rfl⟩ : ∃ d', d = d' + 1 := ⟨d - 1, by simp only [List.length_cons] at hd; omega⟩
      cases hc : eqCell x y with
      | none => rw [hc] at he; cases he
      | some c =>
       have hk3 := kind_lt hc
       rw [hc] at he
       unfold eqFields
       rw [if_neg h1, h2, partA_cell (by omega) hlx, partA_cell (by omega) hly]
       simp only
       rw [eqA_cell (d := d') (by omega) hc]
       cases c with
       | false => exact he
       | true =>
        simp only at he ⊢
        have := eqFields_flat fs ks (o + 1) d' xs ys (px ++ [x]) (py ++ [y]) b h4 (by simp [hx]) (by simp [hy]) he (by simp only [List.length_cons] at hd; omega)
        simpa using this
     ·cases he
/-- a struct of such cells -/
def flatB (P : Program) (t : TypeId) (ks : List Nat) : Bool := (match P.underlying t with
 | some (.struct _) => true
 | _ => false) && !(P.eqGuardType P.depth t) && !(P.stoodInHeld t) && fieldsFlat P (P.fieldsOf t).toList ks 0 && Nat.blt (P.fieldsOf t).toList.length 1000
theorem eq_flat {t : TypeId} {ks : List Nat} {xs ys : List AV} {b : Bool} (hf : flatB P t ks = true) (he : eqL ks xs ys = some b) : eqOther P t (.agg xs) (.agg ys) = some b := by
 unfold flatB at hf
 simp only [Bool.and_eq_true, Bool.not_eq_true'] at hf
 obtain ⟨⟨⟨⟨h1, h2⟩, h3⟩, h4⟩, h5⟩ := hf
 have h5 : (P.fieldsOf t).toList.length < 1000 := Nat.le_of_ble_eq_true h5
 unfold eqOther
 simp only [h2, Bool.false_eq_true, if_false]
 unfold eqA
 cases hu : P.underlying t with
 | none => rw [hu] at h1; cases h1
 | some u =>
  rw [hu] at h1
  cases u <;> simp at h1
  simp only [h3, Bool.false_eq_true, if_false]
  exact eqFields_flat _ ks 0 1998 xs ys [] [] b h4 rfl rfl he (by omega)
end
theorem eqCell_str (a b : Bytes) : eqCell (strA a) (strA b) = some (a == b) := by
 rw [← eqS_eq]
 rfl
theorem eqCell_int (k : IntKind) (a b : Int) : eqCell (.int k a) (.int k b) = some (a == b) := by simp [eqCell]
theorem eqL_cons {k : Nat} {ks : List Nat} {x y : AV} {xs ys : List AV} {b c : Bool} (hk : kindV x = k) (h1 : eqCell x y = some b) (h2 : eqL ks xs ys = some c) : eqL (k :: ks) (x :: xs) (y :: ys) = some (b && c) := by
 simp only [eqL, hk, if_true, h1]
 cases b with
 | true => simpa using h2
 | false => rfl
end
end Go.Proofs.Ytjopejiooipmkaa.Abs

namespace Go.Proofs.Ytjopejiooipmkaa.Abs
noncomputable section
open Go.RowKit

abbrev RowT := Nat × TypeId × List AV
/-- the rows at h; since h0 only blocks of S have turned, and new ones -/
structure Mem (S : List Nat) (h0 h : AHeap) (rs : List RowT) : Prop where
 row : ∀ x ∈ rs, RowH h x.1 x.2.1 x.2.2 ∧ x.1 < h.next ∧ (x.1 ∈ S ∨ h0.next ≤ x.1)
 apart : (rs.map (·.1)).Nodup
 tch : Tch S h0 h
section
variable {S : List Nat} {h0 h h' : AHeap} {xs ys rs : List RowT} {b o n : Nat} {e : TypeId} {l l' vs : List AV} {v : AV} {Q : ARes → AHeap → Prop} {K : AHeap → R} {x : R} {x0 x1 x2 x3 x4 : RowT}
theorem Mem.nil (S : List Nat) (h : AHeap) : Mem S h h [] := ⟨by simp, by simp, Tch.refl _ _⟩
theorem Mem.one (k : RowH h b e l) (hb : b < h.next) : Mem [b] h h [(b, e, l)] := ⟨by simpa using ⟨k, hb⟩, by simp, Tch.refl _ _⟩
theorem Mem.at (M : Mem S h0 h (xs ++ (b, e, l) :: ys)) : RowH h b e l ∧ b < h.next ∧ (b ∈ S ∨ h0.next ≤ b) := M.row (b, e, l) (by simp)
theorem Mem.upd (M : Mem S h0 h (xs ++ (b, e, l) :: ys)) (ht : Tch [b] h h') (k : RowH h' b e l') : Mem S h0 h' (xs ++ (b, e, l') :: ys) := by
 have hap := M.apart
 have hle := ht.1
 simp only [List.map_append, List.map_cons] at hap
 have hne : ∀ x ∈ xs ++ ys, x.1 ≠ b := by
  intro x hx hxb
  rw [List.nodup_append] at hap
  obtain ⟨_, h2, h3⟩ := hap
  rw [List.nodup_cons] at h2
  rcases List.mem_append.1 hx with hx | hx
  ·exact h3 x.1 (List.mem_map_of_mem hx) b (by simp) hxb
  ·exact h2.1 (by rw [← hxb]; exact List.mem_map_of_mem hx)
 refine ⟨fun x hx => ?_, by simpa only [List.map_append, List.map_cons] using hap, M.tch.trans' ht fun i hi => ?_⟩
 ·have hx' : x ∈ xs ++ ys ∨ x = (b, e, l') := by
   rcases List.mem_append.1 hx with hx | hx
   ·exact .inl (List.mem_append_left _ hx)
   ·rcases List.mem_cons.1 hx with hx | hx
    ·exact .inr hx
    ·exact .inl (List.mem_append_right _ hx)
  rcases hx' with hx' | rfl
  ·obtain ⟨h1, h2, h3⟩ := M.row x (by
    rcases List.mem_append.1 hx' with hx | hx
    ·exact List.mem_append_left _ hx
    ·exact List.mem_append_right _ (List.mem_cons_of_mem _ hx))
   exact ⟨h1.tch ht h2 (by simpa using hne x hx'), by omega, h3⟩
  ·have := M.at
   exact ⟨k, by show b < h'.next; omega, this.2.2⟩
 ·simp only [List.mem_cons, List.not_mem_nil, or_false] at hi
  subst hi
  exact M.at.2.2
theorem Mem.keep (M : Mem S h0 h rs) (ht : Tch [] h h') : Mem S h0 h' rs := by
 have hle := ht.1
 refine ⟨fun x hx => ?_, M.apart, M.tch.trans (ht.mono (by simp))⟩
 obtain ⟨h1, h2, h3⟩ := M.row x hx
 exact ⟨h1.tch ht h2 (by simp), by omega, h3⟩
theorem Mem.new (M : Mem S h0 h rs) (ht : Tch [] h h') (k : RowH h' b e l) (hb : h.next ≤ b) (hb2 : b < h'.next) : Mem S h0 h' ((b, e, l) :: rs) := by
 have M' := M.keep ht
 have hle := M.tch.1
 refine ⟨fun x hx => ?_, ?_, M'.tch⟩
 ·rcases List.mem_cons.1 hx with rfl | hx
  ·exact ⟨k, hb2, .inr (by show h0.next ≤ b; omega)⟩
  ·exact M'.row x hx
 ·rw [List.map_cons, List.nodup_cons]
  refine ⟨fun hm => ?_, M.apart⟩
  obtain ⟨x, hx, hxb⟩ := List.mem_map.1 hm
  have := (M.row x hx).2.1
  omega
theorem Mem.newH (M : Mem S h0 h rs) (e : TypeId) (l : List AV) : Mem S h0 (newH h e l) ((h.next, e, l) :: rs) := M.new (Tch.newH _ _ _ _) (RowH.new _ _ _) (Nat.le_refl _) (Nat.lt_succ_self _)
/-- a row is no longer spoken of -/
theorem Mem.drop (M : Mem S h0 h (xs ++ ys)) : Mem S h0 h ys := by
 refine ⟨fun x hx => M.row x (List.mem_append_right _ hx), ?_, M.tch⟩
 have := M.apart
 rw [List.map_append, List.nodup_append] at this
 exact this.2.1
theorem Mem.pop (M : Mem S h0 h (x0 :: rs)) : Mem S h0 h rs := Mem.drop (xs := [x0]) M
theorem Mem.ex (M : Mem S h0 h rs) : h.ex = h0.ex := M.tch.2.1
/-- a new stretch: what has turned so far does not matter -/
theorem Mem.base (M : Mem S h0 h rs) : Mem (rs.map (·.1)) h h rs := ⟨fun x hx => ⟨(M.row x hx).1, (M.row x hx).2.1, .inl (List.mem_map_of_mem hx)⟩, M.apart, Tch.refl _ _⟩
theorem Wp.mnew (M : Mem S h0 h rs) (hk : ∀ h', Mem S h0 h' ((h.next, e, l) :: rs) → Wp (K h') Q) : Wp (Abs.lett (Abs.newH h e l) K) Q := hk _ (M.newH e l)
theorem Wp.mbox {K : AV → AHeap → R} (M : Mem S h0 h rs) (h1 : l.all AV.one = true) (hk : ∀ h', Mem S h0 h' ((h.next, e, l) :: rs) → Wp (K (.ptr h.next 0) h') Q) : Wp (Abs.outK (opBox h e (some (.agg l))) K) Q :=
 Wp.outK (box_agg h1) (hk _ (M.newH e l))
theorem Wp.mnews {K : AV → AHeap → R} {w : OutT} {sz : Nat} (M : Mem S h0 h rs) (eb : w = outNewS h e l n sz) (h1 : l.all AV.one = true) (hex : memB e h0.ex = false) (hk : ∀ h', Mem S h0 h' ((h.next, e, l) :: rs) → Wp (K (.sl h.next 0 n sz) h') Q) : Wp (Abs.outK w K) Q := by
 refine Wp.outK (v := .sl h.next 0 n sz) (h1 := Abs.newH h e l) ?_ (hk _ (M.newH e l))
 rw [eb]
 unfold outNewS
 rw [if_pos ⟨h1, by rw [M.ex]; exact hex⟩]
 rfl
theorem and_t {a c : Bool} (h1 : a = true) (h2 : c = true) : (a && c) = true := by rw [h1, h2]; rfl
theorem Mem.at0 (M : Mem S h0 h ((b, e, l) :: ys)) : RowH h b e l ∧ b < h.next ∧ (b ∈ S ∨ h0.next ≤ b) := Mem.at (xs := []) M
theorem Wp.ld0 {K : AV → R} (M : Mem S h0 h ((b, e, l) :: ys)) (ho : l[o]? = some v) (hk : Wp (K v) Q) : Wp (Abs.obind (ldCell h (.ptr b o)) K) Q := Wp.obind (RowH.cell' (Mem.at (xs := []) M).1 ho) hk
theorem Wp.lr0 {K : List AV → R} (M : Mem S h0 h ((b, e, l) :: ys)) (hn : l.length = n) (hk : Wp (K l) Q) : Wp (Abs.obind (ldRow h n (.ptr b 0)) K) Q := Wp.obind (RowH.ldAll (Mem.at (xs := []) M).1 hn) hk
theorem Wp.sa0 (M : Mem S h0 h ((b, e, l) :: ys)) (hn : vs.length = n) (hl : l.length = n) (h1 : vs.all AV.one = true) (hk : ∀ h', Mem S h0 h' ((b, e, vs) :: ys) → Wp (K h') Q) : Wp (Abs.obind (stRow h n vs (.ptr b 0)) K) Q :=
 Wp.stAll (Mem.at (xs := []) M).1 hn hl h1 fun h' k' t' _ => hk h' (Mem.upd (xs := []) M t' k')
theorem Wp.ms0 (M : Mem S h0 h ((b, e, l) :: ys)) (ho : o < l.length) (h1 : v.one = true) (hk : ∀ h', Mem S h0 h' ((b, e, l.set o v) :: ys) → Wp (K h') Q) : Wp (Abs.obind (stRow h 1 [v] (.ptr b o)) K) Q :=
 Wp.st1 (Mem.at (xs := []) M).1 ho h1 fun h' k' t' _ => hk h' (Mem.upd (xs := []) M t' k')
theorem Mem.re0 {P : Program} {ty : TypeId} (M : Mem S h0 h ((b, e, l) :: ys)) (ha : aggO P ty = some false) (ho : l[o]? = some v) : reLoad P h ty (.ptr b o) v = true := reLoad_c ha (RowH.cell' (Mem.at (xs := []) M).1 ho)
theorem Mem.at1 (M : Mem S h0 h (x0 :: (b, e, l) :: ys)) : RowH h b e l ∧ b < h.next ∧ (b ∈ S ∨ h0.next ≤ b) := Mem.at (xs := [x0]) M
theorem Wp.ld1 {K : AV → R} (M : Mem S h0 h (x0 :: (b, e, l) :: ys)) (ho : l[o]? = some v) (hk : Wp (K v) Q) : Wp (Abs.obind (ldCell h (.ptr b o)) K) Q := Wp.obind (RowH.cell' (Mem.at (xs := [x0]) M).1 ho) hk
theorem Wp.lr1 {K : List AV → R} (M : Mem S h0 h (x0 :: (b, e, l) :: ys)) (hn : l.length = n) (hk : Wp (K l) Q) : Wp (Abs.obind (ldRow h n (.ptr b 0)) K) Q := Wp.obind (RowH.ldAll (Mem.at (xs := [x0]) M).1 hn) hk
theorem Wp.sa1 (M : Mem S h0 h (x0 :: (b, e, l) :: ys)) (hn : vs.length = n) (hl : l.length = n) (h1 : vs.all AV.one = true) (hk : ∀ h', Mem S h0 h' (x0 :: (b, e, vs) :: ys) → Wp (K h') Q) : Wp (Abs.obind (stRow h n vs (.ptr b 0)) K) Q :=
 Wp.stAll (Mem.at (xs := [x0]) M).1 hn hl h1 fun h' k' t' _ => hk h' (Mem.upd (xs := [x0]) M t' k')
theorem Wp.ms1 (M : Mem S h0 h (x0 :: (b, e, l) :: ys)) (ho : o < l.length) (h1 : v.one = true) (hk : ∀ h', Mem S h0 h' (x0 :: (b, e, l.set o v) :: ys) → Wp (K h') Q) : Wp (Abs.obind (stRow h 1 [v] (.ptr b o)) K) Q :=
 Wp.st1 (Mem.at (xs := [x0]) M).1 ho h1 fun h' k' t' _ => hk h' (Mem.upd (xs := [x0]) M t' k')
theorem Mem.re1 {P : Program} {ty : TypeId} (M : Mem S h0 h (x0 :: (b, e, l) :: ys)) (ha : aggO P ty = some false) (ho : l[o]? = some v) : reLoad P h ty (.ptr b o) v = true := reLoad_c ha (RowH.cell' (Mem.at (xs := [x0]) M).1 ho)
theorem Wp.ld2 {K : AV → R} (M : Mem S h0 h (x0 :: x1 :: (b, e, l) :: ys)) (ho : l[o]? = some v) (hk : Wp (K v) Q) : Wp (Abs.obind (ldCell h (.ptr b o)) K) Q := Wp.obind (RowH.cell' (Mem.at (xs := [x0, x1]) M).1 ho) hk
theorem Wp.lr2 {K : List AV → R} (M : Mem S h0 h (x0 :: x1 :: (b, e, l) :: ys)) (hn : l.length = n) (hk : Wp (K l) Q) : Wp (Abs.obind (ldRow h n (.ptr b 0)) K) Q := Wp.obind (RowH.ldAll (Mem.at (xs := [x0, x1]) M).1 hn) hk
theorem Wp.sa2 (M : Mem S h0 h (x0 :: x1 :: (b, e, l) :: ys)) (hn : vs.length = n) (hl : l.length = n) (h1 : vs.all AV.one = true) (hk : ∀ h', Mem S h0 h' (x0 :: x1 :: (b, e, vs) :: ys) → Wp (K h') Q) : Wp (Abs.obind (stRow h n vs (.ptr b 0)) K) Q :=
 Wp.stAll (Mem.at (xs := [x0, x1]) M).1 hn hl h1 fun h' k' t' _ => hk h' (Mem.upd (xs := [x0, x1]) M t' k')
theorem Wp.ms2 (M : Mem S h0 h (x0 :: x1 :: (b, e, l) :: ys)) (ho : o < l.length) (h1 : v.one = true) (hk : ∀ h', Mem S h0 h' (x0 :: x1 :: (b, e, l.set o v) :: ys) → Wp (K h') Q) : Wp (Abs.obind (stRow h 1 [v] (.ptr b o)) K) Q :=
 Wp.st1 (Mem.at (xs := [x0, x1]) M).1 ho h1 fun h' k' t' _ => hk h' (Mem.upd (xs := [x0, x1]) M t' k')
theorem Mem.re2 {P : Program} {ty : TypeId} (M : Mem S h0 h (x0 :: x1 :: (b, e, l) :: ys)) (ha : aggO P ty = some false) (ho : l[o]? = some v) : reLoad P h ty (.ptr b o) v = true := reLoad_c ha (RowH.cell' (Mem.at (xs := [x0, x1]) M).1 ho)
theorem Mem.rr2 {P : Program} {ty : TypeId} (M : Mem S h0 h (x0 :: x1 :: (b, e, l) :: ys)) (ha : aggO P ty = some true) (hn : P.cellsOf ty = l.length) : reLoad P h ty (.ptr b 0) (.agg l) = true := reLoad_r ha hn (RowH.ldAll (Mem.at (xs := [x0, x1]) M).1 rfl)
theorem Wp.ld3 {K : AV → R} (M : Mem S h0 h (x0 :: x1 :: x2 :: (b, e, l) :: ys)) (ho : l[o]? = some v) (hk : Wp (K v) Q) : Wp (Abs.obind (ldCell h (.ptr b o)) K) Q := Wp.obind (RowH.cell' (Mem.at (xs := [x0, x1, x2]) M).1 ho) hk
theorem Wp.ms3 (M : Mem S h0 h (x0 :: x1 :: x2 :: (b, e, l) :: ys)) (ho : o < l.length) (h1 : v.one = true) (hk : ∀ h', Mem S h0 h' (x0 :: x1 :: x2 :: (b, e, l.set o v) :: ys) → Wp (K h') Q) : Wp (Abs.obind (stRow h 1 [v] (.ptr b o)) K) Q :=
 Wp.st1 (Mem.at (xs := [x0, x1, x2]) M).1 ho h1 fun h' k' t' _ => hk h' (Mem.upd (xs := [x0, x1, x2]) M t' k')
theorem Wp.ld4 {K : AV → R} (M : Mem S h0 h (x0 :: x1 :: x2 :: x3 :: (b, e, l) :: ys)) (ho : l[o]? = some v) (hk : Wp (K v) Q) : Wp (Abs.obind (ldCell h (.ptr b o)) K) Q := Wp.obind (RowH.cell' (Mem.at (xs := [x0, x1, x2, x3]) M).1 ho) hk
theorem Mem.re4 {P : Program} {ty : TypeId} (M : Mem S h0 h (x0 :: x1 :: x2 :: x3 :: (b, e, l) :: ys)) (ha : aggO P ty = some false) (ho : l[o]? = some v) : reLoad P h ty (.ptr b o) v = true := reLoad_c ha (RowH.cell' (Mem.at (xs := [x0, x1, x2, x3]) M).1 ho)
end
end
end Go.Proofs.Ytjopejiooipmkaa.Abs

namespace Go.Proofs.Ytjopejiooipmkaa.Abs
noncomputable section
open Go.RowKit

/-- a slice's row, behind the other rows of a list -/
def GrowT (e : TypeId) (sz : Nat) (rows : List (List AV)) (v : AV) (T : List RowT) : Prop :=
 (∀ r ∈ rows, r.length = sz ∧ r.all AV.one = true) ∧ ((rows = [] ∧ v = .nsl ∧ T = []) ∨ (rows ≠ [] ∧ ∃ c, v = .sl c 0 rows.length sz ∧ T = [(c, e, rows.flatten)]))
theorem GrowT.nil (e : TypeId) (sz : Nat) : GrowT e sz [] .nsl [] := ⟨by simp, .inl ⟨rfl, rfl, rfl⟩⟩
section
variable {P : Program} {S : List Nat} {h0 h h' : AHeap} {xs ys rs T : List RowT} {b o n sz B : Nat} {e t u : TypeId} {l l' vs r : List AV} {v x : AV} {rows : List (List AV)} {Q : ARes → AHeap → Prop}
theorem GrowT.len (g : GrowT e sz rows v T) : lenL v = some (rows.length : Int) := by
 rcases g.2 with ⟨rfl, rfl, _⟩ | ⟨_, c, rfl, _⟩ <;> rfl
theorem GrowT.one (g : GrowT e sz rows v T) : v.one = true ∧ AV.cells v = [v] := by
 rcases g.2 with ⟨rfl, rfl, _⟩ | ⟨_, c, rfl, _⟩ <;> exact ⟨rfl, rfl⟩
theorem Mem.perm (M : Mem S h0 h rs) (hp : ys.Perm rs) : Mem S h0 h ys :=
 ⟨fun x hx => M.row x (hp.subset hx), (hp.map _).nodup_iff.2 M.apart, M.tch⟩
theorem Mem.kill (M : Mem S h0 h (xs ++ [(b, e, l)])) : Mem S h0 (h.put b .dead) xs := by
 have hb := M.at
 have hap := M.apart
 rw [List.map_append, List.nodup_append] at hap
 refine ⟨fun x hx => ?_, hap.1, M.tch.trans' (Tch.put (S := [b]) (.inl (by simp)) _) (by intro i hi; simp at hi; subst hi; exact hb.2.2)⟩
 obtain ⟨h1, h2, h3⟩ := M.row x (List.mem_append_left _ hx)
 have hne : x.1 ≠ b := hap.2.2 x.1 (List.mem_map_of_mem hx) b (by simp)
 exact ⟨h1.same (get_put_other _ (Ne.symm hne)), h2, h3⟩
theorem Mem.grow (M : Mem S h0 h (xs ++ T)) (g : GrowT e sz rows v T) (he : elemOf P t = some e) (hu : notInt P u = true) (hsz : P.cellsOf e = sz) (hfit : fitB P e B = true) (hex : memB e h0.ex = false)
  (hx : lenA x = some 1) (hf : firstA h sz 1 x = some r) (hr : r.length = sz) (hr1 : r.all AV.one = true) (hbig : (rows.length + 1) * B ≤ 1000000000) (hbig2 : rows.length + 1 ≤ 1000000000) :
  ∃ v' h' T', opAppend P h t u v x = some (.val v', h') ∧ Mem S h0 h' (xs ++ T') ∧ GrowT e sz (rows ++ [r]) v' T' := by
 have hall : ∀ q ∈ rows ++ [r], q.length = sz ∧ q.all AV.one = true := by
  intro q hq
  rcases List.mem_append.1 hq with hq | hq
  ·exact g.1 q hq
  ·simp at hq
   subst hq
   exact ⟨hr, hr1⟩
 have hfl : (rows ++ [r]).flatten = rows.flatten ++ r := by simp
 have hex' : memB e h.ex = false := by rw [M.ex]; exact hex
 rcases g.2 with ⟨rfl, rfl, rfl⟩ | ⟨h1, c, rfl, rfl⟩
 ·have a1 := append_new (P := P) (h := h) (t := t) (u := u) (n := 0) (x := x) he hu hsz hx hf (bytesFit_of hfit (by simpa using hbig) (by omega)) hr1 hex'
  rw [List.append_nil] at M
  refine ⟨_, _, [(h.next, e, r)], a1, (M.newH e r).perm List.perm_append_comm, ⟨hall, .inr ⟨by simp, h.next, by simp, by simp⟩⟩⟩
 ·have hl := len_same rows (fun l hl => (g.1 l hl).1)
  have hc := M.at
  have a1 := append_more (P := P) (h := h) (t := t) (u := u) (b := c) (o := 0) (m := rows.length) (n := 0) (x := x) (cs := rows.flatten) he hu hsz hx hf (bytesFit_of hfit hbig hbig2) hr1 hex' (by
   have := hc.1.part (o := 0) (n := rows.flatten.length) (by omega)
   rw [List.drop_zero, List.take_length] at this
   rw [← hl]
   exact this) hc.1.type
  have M1 := M.kill
  refine ⟨_, _, [(h.next, e, rows.flatten ++ r)], a1, (M1.newH e (rows.flatten ++ r)).perm List.perm_append_comm, ⟨hall, .inr ⟨by simp, h.next, by simp, by rw [hfl]⟩⟩⟩
/-- what a call made of some rows, beside others -/
theorem Mem.frame (M : Mem S h0 h (xs ++ rs)) (M' : Mem (xs.map (·.1)) h h' ys) : Mem S h0 h' (ys ++ rs) := by
 have hap := M.apart
 rw [List.map_append, List.nodup_append] at hap
 obtain ⟨a1, a2, a3⟩ := hap
 have hxs : ∀ b ∈ xs.map (·.1), b ∈ S ∨ h0.next ≤ b := by
  intro b hb
  obtain ⟨x, hx, rfl⟩ := List.mem_map.1 hb
  exact (M.row x (List.mem_append_left _ hx)).2.2
 have hle := M.tch.1
 have hle' := M'.tch.1
 refine ⟨fun x hx => ?_, ?_, M.tch.trans' M'.tch hxs⟩
 ·rcases List.mem_append.1 hx with hx | hx
  ·obtain ⟨h1, h2, h3⟩ := M'.row x hx
   exact ⟨h1, h2, h3.elim (fun h => hxs _ h) (fun h => .inr (by omega))⟩
  ·obtain ⟨h1, h2, h3⟩ := M.row x (List.mem_append_right _ hx)
   exact ⟨h1.tch M'.tch h2 (fun hm => a3 x.1 hm x.1 (List.mem_map_of_mem hx) rfl), by omega, h3⟩
 ·rw [List.map_append, List.nodup_append]
  refine ⟨M'.apart, a2, fun a ha b hb hab => ?_⟩
  subst hab
  obtain ⟨x, hx, rfl⟩ := List.mem_map.1 ha
  rcases (M'.row x hx).2.2 with h | h
  ·exact a3 _ h _ hb rfl
  ·obtain ⟨y, hy, hyx⟩ := List.mem_map.1 hb
   have := (M.row y (List.mem_append_right _ hy)).2.1
   omega
/-- one row more: its part of a new slice of one -/
theorem first_one {e' : TypeId} (k : RowH h b e' l) (hl : l.length = sz) : firstA h sz 1 (.sl b 0 1 sz) = some l := by
 rw [firstA_of_row (Nat.le_refl 1), Nat.one_mul]
 have := k.part (o := 0) (n := l.length) (by omega)
 rw [List.drop_zero, List.take_length] at this
 rw [← hl]
 exact this
theorem Wp.grow {K : AV → AHeap → R} {c : Nat} (M : Mem S h0 h ((c, e, r) :: xs ++ T)) (g : GrowT e sz rows v T) (he : elemOf P t = some e) (hu : notInt P u = true) (hsz : P.cellsOf e = sz) (hfit : fitB P e B = true) (hex : memB e h0.ex = false)
  (hr : r.length = sz) (hr1 : r.all AV.one = true) (hbig : (rows.length + 1) * B ≤ 1000000000) (hbig2 : rows.length + 1 ≤ 1000000000)
  (hk : ∀ v' h' T', GrowT e sz (rows ++ [r]) v' T' → Mem S h0 h' (xs ++ T') → Wp (K v' h') Q) : Wp (Abs.outK (opAppend P h t u v (.sl c 0 1 sz)) K) Q := by
 have kc : RowH h c e r := (M.row (c, e, r) (by simp)).1
 obtain ⟨v', h', T', a1, a2, a3⟩ := Mem.grow (xs := (c, e, r) :: xs) (x := .sl c 0 1 sz) M g he hu hsz hfit hex rfl (first_one kc hr) hr hr1 hbig hbig2
 refine Wp.outK a1 (hk v' h' T' a3 ?_)
 rw [List.cons_append] at a2
 exact a2.pop
end
end
end Go.Proofs.Ytjopejiooipmkaa.Abs

namespace Go.Proofs.Ytjopejiooipmkaa
open Go.RowKit Abs

def plainB (c : Nat) : Bool := decide (32 ≤ c) && decide (c ≤ 126)
def hexV (c : Nat) : Option Nat := if 48 ≤ c ∧ c ≤ 57 then some (c - 48) else if 97 ≤ c ∧ c ≤ 102 then some (c - 87) else none
def shortB (c : Nat) : Nat := if c = 34 ∨ c = 92 then c else if c = 10 then 110 else if c = 13 then 114 else if c = 9 then 116 else 0
def byD (c : Nat) : Bool := decide (shortB c = 0) && !plainB c
def mayB (hi : Nat) : Bool := decide (hi < 2) || decide (7 ≤ hi)
inductive FR where
 | ok (c p : Nat)
 | bad (p : Nat)
/-- a byte's number at a place -/
def at? (u : Bytes) (p : Nat) : Option Nat := (u[p]?).map UInt8.toNat
def hexAt (u : Bytes) (p : Nat) : FR := match (at? u p).bind hexV with
 | none => .bad p
 | some hi => if mayB hi = false then .bad p else match (at? u (p + 1)).bind hexV with
  | none => .bad (p + 1)
  | some lo => if byD (hi * 16 + lo) = true then .ok (hi * 16 + lo) (p + 2) else .bad (p + 1)
def escAt (u : Bytes) (p : Nat) : FR := match at? u p with
 | none => .bad p
 | some d => if d = 34 ∨ d = 92 then .ok d (p + 1) else if d = 110 then .ok 10 (p + 1) else if d = 114 then .ok 13 (p + 1) else if d = 116 then .ok 9 (p + 1) else if d = 120 then hexAt u (p + 1) else .bad p
def formAt (u : Bytes) (p : Nat) : FR := match at? u p with
 | none => .bad p
 | some a => if a = 92 then escAt u (p + 1) else if plainB a = true ∧ a ≠ 34 then .ok a (p + 1) else .bad p
theorem at?_lt {u : Bytes} {p : Nat} (h : p < u.length) : at? u p = some (u[p]).toNat := by
 unfold at?
 rw [List.getElem?_eq_getElem h]
 rfl
theorem at?_ge {u : Bytes} {p : Nat} (h : u.length ≤ p) : at? u p = none := by
 unfold at?
 rw [List.getElem?_eq_none h]
 rfl
theorem at?_some {u : Bytes} {p c : Nat} (h : at? u p = some c) : ∃ hp : p < u.length, (u[p]).toNat = c := by
 by_cases hp : p < u.length
 ·rw [at?_lt hp] at h
  exact ⟨hp, by simpa using h⟩
 ·rw [at?_ge (by omega)] at h
  cases h
theorem hexV_lt {c v : Nat} (h : hexV c = some v) : v < 16 ∧ c < 128 := by
 unfold hexV at h
 split at h
 ·simp at h; omega
 ·split at h
  ·simp at h; omega
  ·cases h
theorem hexAt_ok {u : Bytes} {p c q : Nat} (h : hexAt u p = .ok c q) : c < 256 ∧ q = p + 2 ∧ q ≤ u.length := by
 unfold hexAt at h
 split at h
 ·cases h
 ·rename_i hi h1
  split at h
  ·cases h
  ·split at h
   ·cases h
   ·rename_i lo h2
    split at h
    ·simp only [FR.ok.injEq] at h
     obtain ⟨rfl, rfl⟩ := h
     obtain ⟨a, _, ha⟩ := Option.bind_eq_some_iff.1 h1
     obtain ⟨b, hb0, hb⟩ := Option.bind_eq_some_iff.1 h2
     have := hexV_lt ha
     have := hexV_lt hb
     obtain ⟨hp, _⟩ := at?_some hb0
     omega
    ·cases h
theorem formAt_ok {u : Bytes} {p c q : Nat} (h : formAt u p = .ok c q) : c < 256 ∧ p < q ∧ q ≤ u.length := by
 unfold formAt at h
 split at h
 ·cases h
 ·rename_i a ha
  obtain ⟨hp, hpa⟩ := at?_some ha
  have hlt := (u[p]).toNat_lt
  split at h
  ·unfold escAt at h
   split at h
   ·cases h
   ·rename_i d hd
    obtain ⟨hp2, hpd⟩ := at?_some hd
    have hlt2 := (u[p + 1]).toNat_lt
    (repeat' split at h) <;> first | (simp only [FR.ok.injEq] at h; omega) | (cases h; done) | skip
    have := hexAt_ok h
    omega
  ·split at h
   ·simp only [FR.ok.injEq] at h
    omega
   ·cases h
theorem hexAt_bad {u : Bytes} {p q : Nat} (h : hexAt u p = .bad q) : q ≤ p + 1 ∧ p ≤ q ∧ (p ≤ u.length → q ≤ u.length) := by
 unfold hexAt at h
 split at h
 ·simp only [FR.bad.injEq] at h
  omega
 ·rename_i hi h1
  obtain ⟨a, ha0, _⟩ := Option.bind_eq_some_iff.1 h1
  obtain ⟨hp, _⟩ := at?_some ha0
  split at h
  ·simp only [FR.bad.injEq] at h
   omega
  ·split at h
   ·simp only [FR.bad.injEq] at h
    omega
   ·split at h
    ·cases h
    ·simp only [FR.bad.injEq] at h
     omega
theorem formAt_bad {u : Bytes} {p q : Nat} (h : formAt u p = .bad q) (hp : p ≤ u.length) : p ≤ q ∧ q ≤ u.length := by
 unfold formAt at h
 split at h
 ·simp only [FR.bad.injEq] at h
  omega
 ·rename_i a ha
  obtain ⟨hp, hpa⟩ := at?_some ha
  split at h
  ·unfold escAt at h
   split at h
   ·simp only [FR.bad.injEq] at h
    omega
   ·rename_i d hd
    obtain ⟨hp2, _⟩ := at?_some hd
    (repeat' split at h) <;> first | (cases h; done) | (simp only [FR.bad.injEq] at h; omega) | skip
    have := hexAt_bad h
    omega
  ·split at h
   ·cases h
   ·simp only [FR.bad.injEq] at h
    omega
inductive QR where
 | ok (l : Bytes) (p : Nat)
 | bad (e : Int) (p : Nat)
/-- what stands in quotes from a place on; below 0: no limit -/
def scanQ (u : Bytes) (most : Int) : Nat → Nat → Bytes → QR
 | 0, p, _ => .bad 6 p
 | n + 1, p, acc => if at? u p = some 34 then .ok acc (p + 1) else if (acc.length : Int) = most then .bad 3 p else match formAt u p with
  | .ok c q => scanQ u most n q (acc ++ [UInt8.ofNat c])
  | .bad q => .bad 6 q
def quotedQ (u : Bytes) (most : Int) : QR := if at? u 0 = some 34 then scanQ u most (u.length + 1) 1 [] else .bad 6 0
end Go.Proofs.Ytjopejiooipmkaa

namespace Go.Proofs.Ytjopejiooipmkaa
open Go.RowKit Abs

def hx (v : Nat) : UInt8 := UInt8.ofNat (if v < 10 then 48 + v else 87 + v)
def signB (c : Nat) : Bytes := if c = 34 then [92, 34] else if c = 92 then [92, 92] else if c = 10 then [92, 110] else if c = 13 then [92, 114] else if c = 9 then [92, 116] else if plainB c = true then [UInt8.ofNat c] else [92, 120, hx (c / 16), hx (c % 16)]
def hexW (w : Bytes) : FR := match w with
 | [] => .bad 2
 | x :: w => match hexV x.toNat with
  | none => .bad 2
  | some hi => if mayB hi = false then .bad 2 else match w with
   | [] => .bad 3
   | y :: _ => match hexV y.toNat with
    | none => .bad 3
    | some lo => if byD (hi * 16 + lo) = true then .ok (hi * 16 + lo) 4 else .bad 3
def escW (w : Bytes) : FR := match w with
 | [] => .bad 1
 | d :: w => if d.toNat = 34 ∨ d.toNat = 92 then .ok d.toNat 2 else if d.toNat = 110 then .ok 10 2 else if d.toNat = 114 then .ok 13 2 else if d.toNat = 116 then .ok 9 2 else if d.toNat = 120 then hexW w else .bad 1
def formW (w : Bytes) : FR := match w with
 | [] => .bad 0
 | a :: w => if a.toNat = 92 then escW w else if plainB a.toNat = true ∧ a.toNat ≠ 34 then .ok a.toNat 1 else .bad 0
def shiftF (p : Nat) : FR → FR
 | .ok c k => .ok c (p + k)
 | .bad k => .bad (p + k)
theorem at?_drop (u : Bytes) (p i : Nat) : at? u (p + i) = (((u.drop p)[i]?).map UInt8.toNat) := by
 unfold at?
 rw [List.getElem?_drop]
theorem formAt_W (u : Bytes) (p : Nat) : formAt u p = shiftF p (formW (u.drop p)) := by
 have h0 := at?_drop u p 0
 have h1 := at?_drop u p 1
 have h2 := at?_drop u p 2
 have h3 := at?_drop u p 3
 rw [Nat.add_zero] at h0
 unfold formAt formW
 cases hw : u.drop p with
 | nil =>
  rw [hw] at h0
  rw [h0]
  rfl
 | cons a w =>
  rw [hw] at h0 h1 h2 h3
  rw [h0]
  simp only [List.getElem?_cons_zero, Option.map_some]
  by_cases ha : a.toNat = 92
  ·rw [if_pos ha, if_pos ha]
   unfold escAt escW
   rw [h1]
   cases w with
   | nil => rfl
   | cons b w =>
    simp only [List.getElem?_cons_succ, List.getElem?_cons_zero, Option.map_some]
    by_cases c1 : b.toNat = 34 ∨ b.toNat = 92
    ·rw [if_pos c1, if_pos c1]; rfl
    rw [if_neg c1, if_neg c1]
    by_cases c2 : b.toNat = 110
    ·rw [if_pos c2, if_pos c2]; rfl
    rw [if_neg c2, if_neg c2]
    by_cases c3 : b.toNat = 114
    ·rw [if_pos c3, if_pos c3]; rfl
    rw [if_neg c3, if_neg c3]
    by_cases c4 : b.toNat = 116
    ·rw [if_pos c4, if_pos c4]; rfl
    rw [if_neg c4, if_neg c4]
    by_cases c5 : b.toNat = 120
    ·rw [if_pos c5, if_pos c5]
     unfold hexAt hexW
     rw [show p + 1 + 1 = p + 2 from rfl, h2, show p + 2 + 1 = p + 3 from rfl, h3]
     cases w with
     | nil => rfl
     | cons x w =>
      simp only [List.getElem?_cons_succ, List.getElem?_cons_zero, Option.map_some, Option.bind_some]
      cases hexV x.toNat with
      | none => rfl
      | some hi =>
       simp only
       by_cases hm : mayB hi = false
       ·rw [if_pos hm, if_pos hm]; rfl
       rw [if_neg hm, if_neg hm]
       cases w with
       | nil => rfl
       | cons y w =>
        simp only [List.getElem?_cons_zero, Option.map_some, Option.bind_some]
        cases hexV y.toNat with
        | none => rfl
        | some lo =>
         simp only
         by_cases hb : byD (hi * 16 + lo) = true
         ·rw [if_pos hb, if_pos hb]; rfl
         ·rw [if_neg hb, if_neg hb]; rfl
    ·rw [if_neg c5, if_neg c5]; rfl
  ·rw [if_neg ha, if_neg ha]
   by_cases hp : plainB a.toNat = true ∧ a.toNat ≠ 34
   ·rw [if_pos hp, if_pos hp]; rfl
   ·rw [if_neg hp, if_neg hp]; rfl
theorem hexV_hx : ∀ v : Fin 16, hexV (hx v.val).toNat = some v.val := by decide
theorem hx_of {x : UInt8} {v : Nat} (h : hexV x.toNat = some v) : x = hx v := by
 have hv := hexV_lt h
 unfold hexV at h
 apply UInt8.toNat_inj.1
 unfold hx
 rw [UInt8.toNat_ofNat']
 split at h
 ·simp at h
  rw [if_pos (by omega), Nat.mod_eq_of_lt (by omega)]
  omega
 ·split at h
  ·simp at h
   rw [if_neg (by omega), Nat.mod_eq_of_lt (by omega)]
   omega
  ·cases h
theorem mayB_of {hi lo : Nat} (hh : hi < 16) (hl : lo < 16) (hb : byD (hi * 16 + lo) = true) : mayB hi = true := by
 have h : ∀ a b : Fin 16, byD (a.val * 16 + b.val) = true → mayB a.val = true := by decide
 exact h ⟨hi, hh⟩ ⟨lo, hl⟩ hb
inductive Cls (c : Nat) : Prop where
 | esc (e : UInt8) (h : signB c = [92, e]) (he : (c = 34 ∧ e = 34) ∨ (c = 92 ∧ e = 92) ∨ (c = 10 ∧ e = 110) ∨ (c = 13 ∧ e = 114) ∨ (c = 9 ∧ e = 116))
 | plain (h : signB c = [UInt8.ofNat c]) (hp : plainB c = true) (h1 : c ≠ 34) (h2 : c ≠ 92)
 | dig (h : signB c = [92, 120, hx (c / 16), hx (c % 16)]) (hb : byD c = true)
theorem cls (c : Nat) : Cls c := by
 by_cases c1 : c = 34
 ·exact .esc 34 (by unfold signB; rw [if_pos c1]) (.inl ⟨c1, rfl⟩)
 by_cases c2 : c = 92
 ·exact .esc 92 (by unfold signB; rw [if_neg c1, if_pos c2]) (.inr (.inl ⟨c2, rfl⟩))
 by_cases c3 : c = 10
 ·exact .esc 110 (by unfold signB; rw [if_neg c1, if_neg c2, if_pos c3]) (.inr (.inr (.inl ⟨c3, rfl⟩)))
 by_cases c4 : c = 13
 ·exact .esc 114 (by unfold signB; rw [if_neg c1, if_neg c2, if_neg c3, if_pos c4]) (.inr (.inr (.inr (.inl ⟨c4, rfl⟩))))
 by_cases c5 : c = 9
 ·exact .esc 116 (by unfold signB; rw [if_neg c1, if_neg c2, if_neg c3, if_neg c4, if_pos c5]) (.inr (.inr (.inr (.inr ⟨c5, rfl⟩))))
 by_cases c6 : plainB c = true
 ·exact .plain (by unfold signB; rw [if_neg c1, if_neg c2, if_neg c3, if_neg c4, if_neg c5, if_pos c6]) c6 c1 c2
 ·refine .dig (by unfold signB; rw [if_neg c1, if_neg c2, if_neg c3, if_neg c4, if_neg c5, if_neg c6]) ?_
  unfold byD shortB
  rw [if_neg (by omega), if_neg c3, if_neg c4, if_neg c5]
  simpa using c6
theorem ofNat_toNat {c : Nat} (h : c < 256) : (UInt8.ofNat c).toNat = c := by
 rw [UInt8.toNat_ofNat', Nat.mod_eq_of_lt (by omega)]
/-- a text that begins with what stands for a byte -/
theorem formW_sign {c : Nat} (hc : c < 256) (r : Bytes) : formW (signB c ++ r) = .ok c (signB c).length := by
 rcases cls c with ⟨e, h, he⟩ | ⟨h, hp, h1, h2⟩ | ⟨h, hb⟩
 ·rw [h]
  rcases he with ⟨rfl, rfl⟩ | ⟨rfl, rfl⟩ | ⟨rfl, rfl⟩ | ⟨rfl, rfl⟩ | ⟨rfl, rfl⟩ <;> rfl
 ·rw [h]
  show (if (UInt8.ofNat c).toNat = 92 then _ else _) = _
  rw [ofNat_toNat hc, if_neg h2, if_pos ⟨hp, h1⟩]
  rfl
 ·rw [h]
  show hexW (hx (c / 16) :: hx (c % 16) :: r) = _
  have hh : c / 16 < 16 := by omega
  have hl : c % 16 < 16 := by omega
  have e1 := hexV_hx ⟨c / 16, hh⟩
  have e2 := hexV_hx ⟨c % 16, hl⟩
  have e3 : c / 16 * 16 + c % 16 = c := by omega
  simp only at e1 e2
  unfold hexW
  simp only [e1, e2, e3, hb, if_true]
  rw [if_neg (by rw [mayB_of hh hl (by rw [e3]; exact hb)]; simp)]
  rfl
theorem formW_ok {w : Bytes} {c k : Nat} (h : formW w = .ok c k) : c < 256 ∧ k = (signB c).length ∧ ∃ r, w = signB c ++ r := by
 unfold formW at h
 cases w with
 | nil => cases h
 | cons a w =>
  simp only at h
  have ha := a.toNat_lt
  by_cases h92 : a.toNat = 92
  ·rw [if_pos h92] at h
   have ea : a = 92 := UInt8.toNat_inj.1 h92
   subst ea
   unfold escW at h
   cases w with
   | nil => cases h
   | cons d w =>
    simp only at h
    by_cases c1 : d.toNat = 34 ∨ d.toNat = 92
    ·rw [if_pos c1] at h
     simp only [FR.ok.injEq] at h
     obtain ⟨rfl, rfl⟩ := h
     rcases c1 with c1 | c1
     ·have : d = 34 := UInt8.toNat_inj.1 c1
      subst this
      exact ⟨by decide, rfl, w, rfl⟩
     ·have : d = 92 := UInt8.toNat_inj.1 c1
      subst this
      exact ⟨by decide, rfl, w, rfl⟩
    rw [if_neg c1] at h
    by_cases c2 : d.toNat = 110
    ·rw [if_pos c2] at h
     have : d = 110 := UInt8.toNat_inj.1 c2
     subst this
     cases h
     exact ⟨by decide, rfl, w, rfl⟩
    rw [if_neg c2] at h
    by_cases c3 : d.toNat = 114
    ·rw [if_pos c3] at h
     have : d = 114 := UInt8.toNat_inj.1 c3
     subst this
     cases h
     exact ⟨by decide, rfl, w, rfl⟩
    rw [if_neg c3] at h
    by_cases c4 : d.toNat = 116
    ·rw [if_pos c4] at h
     have : d = 116 := UInt8.toNat_inj.1 c4
     subst this
     cases h
     exact ⟨by decide, rfl, w, rfl⟩
    rw [if_neg c4] at h
    by_cases c5 : d.toNat = 120
    ·rw [if_pos c5] at h
     have : d = 120 := UInt8.toNat_inj.1 c5
     subst this
     unfold hexW at h
     cases w with
     | nil => cases h
     | cons x w =>
      simp only at h
      cases hv : hexV x.toNat with
      | none => rw [hv] at h; cases h
      | some hi =>
       rw [hv] at h
       simp only at h
       split at h
       ·cases h
       ·cases w with
        | nil => cases h
        | cons y w =>
         simp only at h
         cases hv2 : hexV y.toNat with
         | none => rw [hv2] at h; cases h
         | some lo =>
          rw [hv2] at h
          simp only at h
          split at h
          ·rename_i hb
           simp only [FR.ok.injEq] at h
           obtain ⟨rfl, rfl⟩ := h
           have l1 := (hexV_lt hv).1
           have l2 := (hexV_lt hv2).1
           have s : signB (hi * 16 + lo) = [92, 120, hx hi, hx lo] := by
            rcases cls (hi * 16 + lo) with ⟨e, hs, he⟩ | ⟨hs, hp, h1, h2⟩ | ⟨hs, hb2⟩
            ·rcases he with ⟨he, _⟩ | ⟨he, _⟩ | ⟨he, _⟩ | ⟨he, _⟩ | ⟨he, _⟩ <;> (rw [he] at hb; exact absurd hb (by decide))
            ·unfold byD at hb
             rw [hp] at hb
             simp at hb
            ·rw [hs, show (hi * 16 + lo) / 16 = hi by omega, show (hi * 16 + lo) % 16 = lo by omega]
           rw [s, hx_of hv, hx_of hv2]
           exact ⟨by omega, rfl, w, rfl⟩
          ·cases h
    ·rw [if_neg c5] at h
     cases h
  ·rw [if_neg h92] at h
   split at h
   ·rename_i hp
    simp only [FR.ok.injEq] at h
    obtain ⟨rfl, rfl⟩ := h
    have s : signB a.toNat = [a] := by
     rcases cls a.toNat with ⟨e, hs, he⟩ | ⟨hs, _, _, _⟩ | ⟨hs, hb2⟩
     ·rcases he with ⟨he, _⟩ | ⟨he, _⟩ | ⟨he, _⟩ | ⟨he, _⟩ | ⟨he, _⟩
      ·exact absurd he hp.2
      ·exact absurd he h92
      all_goals (have := hp.1; rw [he] at this; exact absurd this (by decide))
     ·rw [hs]
      simp
     ·unfold byD at hb2
      rw [hp.1] at hb2
      simp at hb2
    rw [s]
    exact ⟨ha, rfl, w, rfl⟩
   ·cases h
end Go.Proofs.Ytjopejiooipmkaa

namespace Go.Proofs.Ytjopejiooipmkaa
open Go.RowKit Abs
abbrev digitsB : Bytes := [48, 49, 50, 51, 52, 53, 54, 55, 56, 57, 97, 98, 99, 100, 101, 102]
def ibV (k : Nat) : Int := match hexV k with
 | some v => (v : Int)
 | none => -1
noncomputable def ibArgs (k : Nat) : List AV := [strA digitsB, .int .u8 (k : Int)]
noncomputable def ibGo (k : Nat) : Bool := came (.ret (.int .i64 (ibV k))) (callA Try.prog (Memo.spec Try.prog 5000 []) 5000 30 64 (ibArgs k) ⟨0, [], .e⟩)
set_option maxRecDepth 100000 in
theorem ib_all : (List.range 256).all ibGo = true := by kernel_rfl
theorem ib_one {k : Nat} (hk : k < 256) : ibGo k = true := List.all_eq_true.1 ib_all k (List.mem_range.2 hk)
noncomputable def ibF : FnT := fun args h => match args with
 | [d, .int .u8 z] => @ite _ (d = strA digitsB ∧ 0 ≤ z ∧ z < 256) (Classical.propDecidable _) (some (.ret (.int .i64 (ibV z.toNat)), h)) none
 | _ => none
theorem ibF_holds : Holds Try.prog 64 ibF := by
 intro args h r h' e
 unfold ibF at e
 split at e
 ·rename_i d z
  split at e
  ·rename_i hk
   obtain ⟨rfl, h1, h2⟩ := hk
   obtain ⟨k, rfl⟩ := Int.eq_ofNat_of_zero_le h1
   simp only [Option.some.injEq, Prod.mk.injEq] at e
   obtain ⟨rfl, rfl⟩ := e
   exact Memo.says (by kernel_rfl) Memo.ok_nil rfl rfl (ib_one (k := k) (by omega)) h
  ·cases e
 ·cases e
theorem ibF_eq {k : Nat} (hk : k < 256) (h : AHeap) : ibF [strA digitsB, .int .u8 (k : Int)] h = some (.ret (.int .i64 (ibV k)), h) := by
 have : ibF [strA digitsB, .int .u8 (k : Int)] h = @ite _ (strA digitsB = strA digitsB ∧ 0 ≤ (k : Int) ∧ (k : Int) < 256) (Classical.propDecidable _) (some (.ret (.int .i64 (ibV (k : Int).toNat)), h)) none := rfl
 rw [this, if_pos ⟨rfl, by omega, by omega⟩]
 rfl
noncomputable def signGo (k : Nat) : Bool := came (.ret (strA (signB k))) (callA Try.prog (Memo.spec Try.prog 5000 []) 5000 30 40 [.int .u8 (k : Int)] ⟨0, [], .e⟩)
set_option maxRecDepth 100000 in
theorem sign_all : (List.range 256).all signGo = true := by kernel_rfl
theorem sign_one {k : Nat} (hk : k < 256) : signGo k = true := List.all_eq_true.1 sign_all k (List.mem_range.2 hk)
noncomputable def signF : FnT := fun args h => match args with
 | [.int .u8 z] => @ite _ (0 ≤ z ∧ z < 256) (Classical.propDecidable _) (some (.ret (strA (signB z.toNat)), h)) none
 | _ => none
theorem signF_holds : Holds Try.prog 40 signF := by
 intro args h r h' e
 unfold signF at e
 split at e
 ·rename_i z
  split at e
  ·rename_i hk
   obtain ⟨h1, h2⟩ := hk
   obtain ⟨k, rfl⟩ := Int.eq_ofNat_of_zero_le h1
   simp only [Option.some.injEq, Prod.mk.injEq] at e
   obtain ⟨rfl, rfl⟩ := e
   exact Memo.says (by kernel_rfl) Memo.ok_nil rfl rfl (sign_one (k := k) (by omega)) h
  ·cases e
 ·cases e
end Go.Proofs.Ytjopejiooipmkaa

namespace Go.Proofs.Ytjopejiooipmkaa.Abs
noncomputable section
open Go.RowKit
section
variable {P : Program} {w0 : Base} {m0 : Map} {N : Nat} {l l' : Fr} {ds : DefT} {h : AHeap} {Q : Exit → Act → World → Prop} {K : Act → World → Prop} {Y : OutT} {ops : Array Oper} {i : Nat}
theorem WL.a (d : Option Nat) (v : AV) (h' : AHeap) (hk : WL P w0 m0 N ops (i + 1) Q (l.put d v) ds h') (h1 : dstN N ops i = some d := by kernel_rfl) (h2 : wantAt ops l.get i = some true := by kernel_rfl) (h3 : opAt P l.eval ops i h = some (.val v, h') := by kernel_rfl) : WL P w0 m0 N ops i Q l ds h := WL.val h1 h2 h3 hk
theorem WL.b (d : Option Nat) (v : AV) (h' : AHeap) (x : Y = some (.val v, h')) (hk : WL P w0 m0 N ops (i + 1) Q (l.put d v) ds h') (h1 : dstN N ops i = some d := by kernel_rfl) (h2 : wantAt ops l.get i = some true := by kernel_rfl) (h3 : opAt P l.eval ops i h = Y := by kernel_rfl) : WL P w0 m0 N ops i Q l ds h := WL.val h1 h2 (h3.trans x) hk
theorem WL.e (h' : AHeap) (x : Y = some (.skip, h')) (hk : WL P w0 m0 N ops (i + 1) Q l ds h') (h1 : dstN N ops i = some none := by kernel_rfl) (h2 : wantAt ops l.get i = some true := by kernel_rfl) (h3 : opAt P l.eval ops i h = Y := by kernel_rfl) : WL P w0 m0 N ops i Q l ds h := WL.eff h1 h2 (h3.trans x) hk
theorem WL.o (d : Option Nat) (hk : WL P w0 m0 N ops (i + 1) Q (l.put d (.tup [])) ds h) (h1 : dstN N ops i = some d := by kernel_rfl) (h2 : wantAt ops l.get i = some false := by kernel_rfl) : WL P w0 m0 N ops i Q l ds h := WL.not h1 h2 hk
theorem WL.c {call : CallF} (hc : CallOK P w0 call) (d : Option Nat) {f : FuncId} {args : List AV} {v : AV} {h1 h' : AHeap} (hcall : call f args h1 = some (.ret v, h')) (hk : WL P w0 m0 N ops (i + 1) Q (l.put d v) ds h') (h2 : dstN N ops i = some d := by kernel_rfl) (h3 : wantAt ops l.get i = some true := by kernel_rfl) (h4 : opAt P l.eval ops i h = some (.call f args, h1) := by kernel_rfl) : WL P w0 m0 N ops i Q l ds h := WL.call hc h2 h3 h4 hcall hk
theorem WL.n (hk : Go w0 m0 N (Q .normal) l ds h) (hi : Nat.beq ops.size i = true := by kernel_rfl) : WL P w0 m0 N ops i Q l ds h := WL.nil hi hk
theorem WD.a {call : CallF} {plan : List Nat} {rs : List Rec} (k : Nat) (d : Option Nat) (v : AV) (h' : AHeap) (hk : WD P w0 m0 N call ops plan (recsD k (recAt P ops i l h) rs) K (l.put d v) ds h') (h1 : dstN N ops i = some d := by kernel_rfl) (h2 : wantAt ops l.get i = some true := by kernel_rfl) (h3 : opAt P l.eval ops i h = some (.val v, h') := by kernel_rfl)
  (h4 : kindD P ops i = k := by kernel_rfl) (h5 : Nat.beq k 2 = false := by kernel_rfl) (h6 : Nat.beq k 9 = false := by kernel_rfl) : WD P w0 m0 N call ops (i :: plan) rs K l ds h :=
 WD.val h1 h2 h3 h4 (fun e => by subst e; cases h5) (fun e => by subst e; cases h6) hk
theorem WD.b {call : CallF} {plan : List Nat} {rs : List Rec} (k : Nat) (d : Option Nat) (v : AV) (h' : AHeap) (x : Y = some (.val v, h')) (hk : WD P w0 m0 N call ops plan (recsD k (recAt P ops i l h) rs) K (l.put d v) ds h') (h1 : dstN N ops i = some d := by kernel_rfl) (h2 : wantAt ops l.get i = some true := by kernel_rfl) (h3 : opAt P l.eval ops i h = Y := by kernel_rfl)
  (h4 : kindD P ops i = k := by kernel_rfl) (h5 : Nat.beq k 2 = false := by kernel_rfl) (h6 : Nat.beq k 9 = false := by kernel_rfl) : WD P w0 m0 N call ops (i :: plan) rs K l ds h :=
 WD.val h1 h2 (h3.trans x) h4 (fun e => by subst e; cases h5) (fun e => by subst e; cases h6) hk
theorem W.r {c : Code} (hk : WL P w0 m0 N (Code.ops c) 0 Q l ds h) (hc : Code.kind c = 7 := by kernel_rfl) : W P w0 m0 N c Q l ds h := W.region hc hk
theorem W.s {c : Code} (hk : ∀ K : Exit → Act → World → Prop, (∀ {ds : DefT} {l : Fr} {h : AHeap}, W P w0 m0 N (Code.p2 c) Q l ds h → Go w0 m0 N (K .normal) l ds h) →
  (∀ {id : Nat} {ds : DefT} {l : Fr} {h : AHeap}, Go w0 m0 N (Q (.exit id)) l ds h → Go w0 m0 N (K (.exit id)) l ds h) → (∀ {ds : DefT} {l : Fr} {h : AHeap}, Go w0 m0 N (Q .ret) l ds h → Go w0 m0 N (K .ret) l ds h) →
  (∀ {ds : DefT} {l : Fr} {v : AV} {h : AHeap}, Pan w0 m0 N Q l ds v h → Pan w0 m0 N K l ds v h) → W P w0 m0 N (Code.p1 c) K l ds h) (hc : Code.kind c = 1 := by kernel_rfl) : W P w0 m0 N c Q l ds h := W.seqK hc hk
theorem W.t {c : Code} (hk : W P w0 m0 N (Code.p1 c) Q l ds h) (hc : Code.kind c = 2 := by kernel_rfl) (hv : l.eval (Code.opd c) = some (.bool true) := by kernel_rfl) : W P w0 m0 N c Q l ds h := W.cond_true hc hv hk
theorem W.f {c : Code} (hk : W P w0 m0 N (Code.p2 c) Q l ds h) (hc : Code.kind c = 2 := by kernel_rfl) (hv : l.eval (Code.opd c) = some (.bool false) := by kernel_rfl) : W P w0 m0 N c Q l ds h := W.cond_false hc hv hk
end
theorem Fr.c {l l' : Fr} {t : Nat} {v : AV} (k : l.sub l') (h : l.get t = some v := by kernel_rfl) : l.sub ((t, v) :: l') := Fr.sub_cons h k
theorem Fr.n {l : Fr} : l.sub [] := Fr.sub_nil l
end
end Go.Proofs.Ytjopejiooipmkaa.Abs

namespace Go.Proofs.Ytjopejiooipmkaa
open Go.RowKit Abs

noncomputable def pattern_guard_1_d (_ : CallF) (_ : Nat) (t0 : AV) (x : AV) (h : AHeap) : R :=
 outK (opBin Try.prog h .neq 20 true (some x) (some AV.nifc)) fun v6 h_2 =>
 obind (avBool v6) fun t6 =>
 lett (fun  (h_6 : AHeap) =>
  some (.ret (.tup []), h_6)) fun k5 =>
 ifB t6
 (
  outK (opAssert Try.prog h_2 65 true (some x)) fun v9 h_8 =>
  obind (extT 0 v9) fun v10 =>
  obind (avAgg v10) fun t10 =>
  obind (extT 1 v9) fun v11 =>
  obind (avBool v11) fun t11 =>
  lett (newH h_8 65 [.int .i64 0, .int .i64 0]) fun h_14 =>
  obind (stRow h_14 2 t10 (newP h_8)) fun h_16 =>
  lett (!t11) fun (t13 : Bool) =>
  lett (fun  (h_22 : AHeap) =>
   obind (ldRow h_22 2 (AV.ptr (AHeap.next h_8) 0)) fun t16 =>
   obind (stRow h_22 2 t16 t0) fun h_24 =>
   k5 h_24) fun k21 =>
  ifB t13
  (
   none)
  (
   k21 h_16))
 (
  k5 h_2)
set_option maxHeartbeats 4000000 in
set_option maxRecDepth 20000 in
theorem pattern_guard_1_d_ok {call : CallF} (_ : SaysAll Try.prog call) {n : Nat} {t0 : AV} {x : AV} {u : Option AV} (hu : u.getD .nifc = x) {h : AHeap} {rR : ARes} {hR : AHeap} (hF : pattern_guard_1_d call n t0 x h = some (rR, hR)) : DSays Try.prog 45 [t0] u h none hR := by
 unfold pattern_guard_1_d at hF
 subst hu
 refine dsays_of (fn := Try.f45) (u' := none) (h1 := h) (l := [(1, (u.getD .nifc)), (4, (u.getD .nifc)), (0, t0)]) Try.func45 (c := codeOf Try.f45) (by kernel_rfl) (by kernel_rfl) (by kernel_rfl) (by kernel_rfl) (by kernel_rfl) (by kernel_rfl) (by kernel_rfl) (fun w0 m0 => ?_)
 refine W.weaken (l' := [(0, t0), (1, (u.getD .nifc))]) (Fr.c (Fr.c Fr.n)) ?_
 refine W.s (fun K1 n1 e1 q1 p1 => ?_)
 refine W.r ?_
 refine WL.a (some 5) (u.getD .nifc) h ?_
 replace hF := outK_some hF; obtain ⟨v6, h_2, e3, hF⟩ := hF
 replace hF := obind_some hF; obtain ⟨t6, c4, hF⟩ := hF
 have c4 := avBool_some c4
 subst c4
 refine WL.b (some 6) (.bool t6) h_2 e3 ?_
 refine WL.n ?_
 refine Go.weaken (l' := [(0, t0), (1, (u.getD .nifc)), (6, .bool t6)]) (Fr.c (Fr.c (Fr.c Fr.n))) ?_
 refine n1 ?_
 replace hF := lett_some hF; obtain ⟨k5, e5, hF⟩ := hF
 have J5 : ∀  (h_6 : AHeap), k5 h_6 = some (rR, hR) → Go w0 m0 (Func.ntmps Try.f45) (DFin w0 m0 hR .normal) [] [] h_6 := by
  intro  h_6 hF
  rw [e5] at hF
  obtain ⟨hF, hF2⟩ := ret_inj hF; subst hF2
  exact Go.dleave
 cases t6 with
 | true =>
  replace hF := ifB_t hF
  refine W.t ?_
  refine W.s (fun K7 n7 e7 q7 p7 => ?_)
  refine W.r ?_
  refine WL.a (some 8) (u.getD .nifc) h_2 ?_
  replace hF := outK_some hF; obtain ⟨v9, h_8, e9, hF⟩ := hF
  refine WL.b (some 9) v9 h_8 e9 ?_
  refine WL.a (some 7) v9 h_8 ?_
  replace hF := obind_some hF; obtain ⟨v10, e10, hF⟩ := hF
  replace hF := obind_some hF; obtain ⟨t10, c11, hF⟩ := hF
  have c11 := avAgg_some c11
  subst c11
  refine WL.b (some 10) (.agg t10) h_8 (extract_tup (h := h_8) e10) ?_
  replace hF := obind_some hF; obtain ⟨v11, e12, hF⟩ := hF
  replace hF := obind_some hF; obtain ⟨t11, c13, hF⟩ := hF
  have c13 := avBool_some c13
  subst c13
  refine WL.b (some 11) (.bool t11) h_8 (extract_tup (h := h_8) e12) ?_
  replace hF := lett_some hF; obtain ⟨h_14, e15, hF⟩ := hF
  refine WL.val (d := (some 2)) (v := (newP h_8)) (h' := h_14) (by kernel_rfl) (by kernel_rfl) (val_ofH e15 (by kernel_rfl)) ?_
  replace hF := obind_some hF; obtain ⟨h_16, e17, hF⟩ := hF
  refine WL.e h_16 (store_row (P := Try.prog) (h := h_14) (t := 65) (v := (.agg t10)) (by kernel_rfl) (by kernel_rfl) e17) ?_
  refine WL.a (some 3) (.bool t11) h_16 ?_
  refine WL.n ?_
  refine Go.weaken (l' := [(0, t0), (1, (u.getD .nifc)), (2, (newP h_8)), (3, .bool t11)]) (Fr.c (Fr.c (Fr.c (Fr.c Fr.n)))) ?_
  refine n7 ?_
  refine W.s (fun K18 n18 e18 q18 p18 => ?_)
  refine W.s (fun K19 n19 e19 q19 p19 => ?_)
  refine W.r ?_
  refine WL.a (some 12) (.bool t11) h_16 ?_
  replace hF := lett_some hF; obtain ⟨t13, e20, hF⟩ := hF
  refine WL.val (d := (some 13)) (v := .bool t13) (h' := h_16) (by kernel_rfl) (by kernel_rfl) (val_of AV.bool e20 (by kernel_rfl)) ?_
  refine WL.n ?_
  refine Go.weaken (l' := [(0, t0), (1, (u.getD .nifc)), (2, (newP h_8)), (13, .bool t13)]) (Fr.c (Fr.c (Fr.c (Fr.c Fr.n)))) ?_
  refine n19 ?_
  replace hF := lett_some hF; obtain ⟨k21, e21, hF⟩ := hF
  have J21 : ∀  (h_22 : AHeap), k21 h_22 = some (rR, hR) → Go w0 m0 (Func.ntmps Try.f45) (K18 .normal) [(0, t0), (2, (newP h_8))] [] h_22 := by
   intro  h_22 hF
   rw [e21] at hF
   refine n18 ?_
   refine W.r ?_
   refine WL.a (some 15) (AV.ptr (AHeap.next h_8) 0) h_22 ?_
   replace hF := obind_some hF; obtain ⟨t16, e23, hF⟩ := hF
   refine WL.b (some 16) (.agg t16) h_22 (load_row (P := Try.prog) (h := h_22) (t := 27) (by kernel_rfl) (by kernel_rfl) e23) ?_
   replace hF := obind_some hF; obtain ⟨h_24, e25, hF⟩ := hF
   refine WL.e h_24 (store_row (P := Try.prog) (h := h_22) (t := 27) (v := (.agg t16)) (by kernel_rfl) (by kernel_rfl) e25) ?_
   refine WL.n ?_
   refine Go.weaken (l' := []) Fr.n ?_
   exact Go.weaken Fr.n (J5 _ hF)
  cases t13 with
  | true =>
   replace hF := ifB_t hF
   refine W.t ?_
   refine W.r ?_
   refine WL.a (some 14) (u.getD .nifc) h_16 ?_
   cases hF
  | false =>
   replace hF := ifB_f hF
   refine W.f ?_
   refine W.skip (by kernel_rfl) ?_
   exact Go.weaken (Fr.c (Fr.c Fr.n)) (J21 _ hF)
 | false =>
  replace hF := ifB_f hF
  refine W.f ?_
  refine W.skip (by kernel_rfl) ?_
  exact Go.weaken Fr.n (J5 _ hF)

noncomputable def pattern_guard (call : CallF) (n : Nat) (t0 : AV) (h : AHeap) : R :=
 lett (newH h 27 [.int .i64 0, .int .i64 0]) fun h_2 =>
 callKd (dynC Try.prog call t0 [] h_2) (fun pv h_14 =>
  callN (pattern_guard_1_d call n (newP h) pv h_14) fun _ h_15 =>
  obind (ldRow h_15 2 (newP h)) fun w2_18 =>
  some (.ret (.agg w2_18), h_15)) fun _ h_6 =>
 obind (stRow h_6 2 ([.int .i64 0, .int .i64 0] : List AV) (newP h)) fun h_9 =>
 callN (pattern_guard_1_d call n (newP h) .nifc h_9) fun _ h_11 =>
 obind (ldRow h_11 2 (newP h)) fun w2 =>
 some (.ret (.agg w2), h_11)
set_option maxHeartbeats 4000000 in
set_option maxRecDepth 20000 in
theorem pattern_guard_ok {call : CallF} (hc : SaysAll Try.prog call) {n : Nat} {t0 : AV} {h : AHeap} {rR : ARes} {hR : AHeap} (hF : pattern_guard call n t0 h = some (rR, hR)) : Says Try.prog 42 [t0] h rR hR := by
 unfold pattern_guard at hF
 refine says_of (fn := Try.f42) Try.func42 (c := codeOf Try.f42) (by kernel_rfl) (by kernel_rfl) (fun w0 m0 => ?_)
 refine W.weaken (l' := [(0, t0)]) (Fr.c Fr.n) ?_
 refine W.s (fun K1 n1 e1 q1 p1 => ?_)
 refine W.r ?_
 replace hF := lett_some hF; obtain ⟨h_2, e3, hF⟩ := hF
 refine WL.val (d := (some 2)) (v := (newP h)) (h' := h_2) (by kernel_rfl) (by kernel_rfl) (val_ofH e3 (by kernel_rfl)) ?_
 refine WL.n ?_
 refine Go.weaken (l' := [(0, t0), (2, (newP h))]) (Fr.c (Fr.c Fr.n)) ?_
 refine n1 ?_
 refine W.s (fun K4 n4 e4 q4 p4 => ?_)
 refine W.r ?_
 refine WL.a (some 3) (AV.fn 45 [] [(newP h)]) h_2 ?_
 refine WL.dfr (d := none) (f := 45) (args := []) (cap := [(newP h)]) (h' := h_2) (by kernel_rfl) (by kernel_rfl) (by kernel_rfl) ?_
 refine WL.n ?_
 refine Go.weaken (l' := [(0, t0), (2, (newP h))]) (Fr.c (Fr.c Fr.n)) ?_
 refine n4 ?_
 refine W.s (fun K5 n5 e5 q5 p5 => ?_)
 refine W.r ?_
 refine WL.a (some 4) t0 h_2 ?_
 replace hF := callKd_some hF; rcases hF with ⟨r5, h_6, e7, hF⟩ | ⟨pv, h_14, e7, hF⟩
 ·rcases dynC_some e7 with ⟨d19g, d19as, d19h, d191, d192⟩ | ⟨d19v, d19h, d191, d192⟩
  rotate_left
  ·cases d192
   refine WL.val (d := (some 5)) (by kernel_rfl) (by kernel_rfl) (Eq.trans (by kernel_rfl) d191) ?_
   refine WL.n ?_
   refine Go.weaken (l' := [(2, (newP h))]) (Fr.c Fr.n) ?_
   refine n5 ?_
   refine W.s (fun K8 n8 e8 q8 p8 => ?_)
   refine W.r ?_
   refine WL.a (some 6) (.agg ([.int .i64 0, .int .i64 0] : List AV)) h_6 ?_
   replace hF := obind_some hF; obtain ⟨h_9, e10, hF⟩ := hF
   refine WL.e h_9 (store_row (P := Try.prog) (h := h_6) (t := 27) (v := (.agg ([.int .i64 0, .int .i64 0] : List AV))) (by kernel_rfl) (by kernel_rfl) e10) ?_
   refine WL.n ?_
   refine Go.weaken (l' := [(2, (newP h))]) (Fr.c Fr.n) ?_
   refine n8 ?_
   refine W.ret (by kernel_rfl) ?_
   replace hF := callN_some hF; obtain ⟨_, h_11, e12, hF⟩ := hF
   replace hF := obind_some hF; obtain ⟨w2, e13, hF⟩ := hF
   obtain ⟨hF, hF2⟩ := ret_inj hF; subst hF; subst hF2
   exact Go.leaveD (by kernel_rfl) (pattern_guard_1_d_ok hc (u := none) rfl e12) (ends_of (rs := [.cell 2 27]) (vs := [.agg w2]) (by kernel_rfl) (res_cell (by kernel_rfl) (load_row (P := Try.prog) (h := h_11) (t := 27) (by kernel_rfl) (by kernel_rfl) e13) res_nil) (by kernel_rfl))
  ·refine WL.call (hc.ok w0) (d := (some 5)) (by kernel_rfl) (by kernel_rfl) (Eq.trans (by kernel_rfl) d191) d192 ?_
   refine WL.n ?_
   refine Go.weaken (l' := [(2, (newP h))]) (Fr.c Fr.n) ?_
   refine n5 ?_
   refine W.s (fun K8 n8 e8 q8 p8 => ?_)
   refine W.r ?_
   refine WL.a (some 6) (.agg ([.int .i64 0, .int .i64 0] : List AV)) h_6 ?_
   replace hF := obind_some hF; obtain ⟨h_9, e10, hF⟩ := hF
   refine WL.e h_9 (store_row (P := Try.prog) (h := h_6) (t := 27) (v := (.agg ([.int .i64 0, .int .i64 0] : List AV))) (by kernel_rfl) (by kernel_rfl) e10) ?_
   refine WL.n ?_
   refine Go.weaken (l' := [(2, (newP h))]) (Fr.c Fr.n) ?_
   refine n8 ?_
   refine W.ret (by kernel_rfl) ?_
   replace hF := callN_some hF; obtain ⟨_, h_11, e12, hF⟩ := hF
   replace hF := obind_some hF; obtain ⟨w2, e13, hF⟩ := hF
   obtain ⟨hF, hF2⟩ := ret_inj hF; subst hF; subst hF2
   exact Go.leaveD (by kernel_rfl) (pattern_guard_1_d_ok hc (u := none) rfl e12) (ends_of (rs := [.cell 2 27]) (vs := [.agg w2]) (by kernel_rfl) (res_cell (by kernel_rfl) (load_row (P := Try.prog) (h := h_11) (t := 27) (by kernel_rfl) (by kernel_rfl) e13) res_nil) (by kernel_rfl))
 ·replace hF := callN_some hF; obtain ⟨_, h_15, e16, hF⟩ := hF
  replace hF := obind_some hF; obtain ⟨w2_18, e17, hF⟩ := hF
  obtain ⟨hF, hF2⟩ := ret_inj hF; subst hF; subst hF2
  rcases dynC_some e7 with ⟨d19g, d19as, d19h, d191, d192⟩ | ⟨d19v, d19h, d191, d192⟩
  ·exact WL.callPanic (hc.ok w0) (d := (some 5)) (by kernel_rfl) (by kernel_rfl) (Eq.trans (by kernel_rfl) d191) d192 (p5 (Pan.leaveD (by kernel_rfl) (pattern_guard_1_d_ok hc (u := (some pv)) rfl e16) (ends_of (rs := [.cell 2 27]) (vs := [.agg w2_18]) (by kernel_rfl) (res_cell (by kernel_rfl) (load_row (P := Try.prog) (h := h_15) (t := 27) (by kernel_rfl) (by kernel_rfl) e17) res_nil) (by kernel_rfl))))
  ·cases d192
noncomputable def pattern_guard_fn (call : CallF) (n : Nat) : FnT := fun args h => match args with
 | [x0] => pattern_guard call n x0 h
 | _ => none
set_option maxRecDepth 100000 in
theorem pattern_guard_fn_eq (call : CallF) (n : Nat) (t0 : AV) (h : AHeap) : pattern_guard_fn call n [t0] h = pattern_guard call n t0 h :=
 rfl
theorem pattern_guard_holds {call : CallF} (hc : SaysAll Try.prog call) (n : Nat) : Holds Try.prog 42 (pattern_guard_fn call n) := by
 intro args h r h2 e
 unfold pattern_guard_fn at e
 split at e
 ·exact pattern_guard_ok hc e
 ·cases e

noncomputable def pattern_Quoted (call : CallF) (_ : Nat) (t0 : Bytes) (t1 : Int) (h : AHeap) : R :=
 lett (newH h 3 [.int .i64 t1]) fun h_2 =>
 lett (newH h_2 9 [.str 0 0]) fun h_4 =>
 lett (newH h_4 27 [.int .i64 0, .int .i64 0]) fun h_6 =>
 outK (opBox h_6 61 (some (.agg ([strA t0, .int .i64 0] : List AV)))) fun v10 h_9 =>
 lett (newH h_9 59 [.nilp]) fun h_11 =>
 obind (stRow h_11 1 (AV.cells v10) (newP h_9)) fun h_13 =>
 callN (call 42 [(AV.fn 43 [] [(newP h_9), (newP h), (newP h_2)])] h_13) fun r12 h_16 =>
 obind (avAgg r12) fun t12 =>
 obind (stRow h_16 2 t12 (newP h_4)) fun h_19 =>
 obind (ldCell h_19 (AV.ptr (AHeap.next h_4) 0)) fun v14 =>
 obind (avInt .i64 v14) fun t14 =>
 lett ((t14 : Int) != 0) fun (t15 : Bool) =>
 ifB t15
 (
  obind (ldRow h_19 2 (newP h_4)) fun t16 =>
  obind (stRow h_19 1 [strA ([] : Bytes)] (newP h_2)) fun h_28 =>
  chk (reLoad Try.prog h_28 27 (newP h_4) (.agg t16) && true) <|
  obind (stRow h_28 2 t16 (newP h_4)) fun h_31 =>
  obind (ldCell h_31 (newP h_2)) fun w4 =>
  obind (ldRow h_31 2 (newP h_4)) fun w6 =>
  some (.ret (.tup [w4, .int .i64 0, .agg w6]), h_31))
 (
  obind (ldCell h_19 (newP h_2)) fun v17 =>
  obind (avStr v17) fun t17 =>
  obind (ldCell h_19 (newP h_9)) fun v18 =>
  obind (nilC v18) fun t19 =>
  obind (fldP 1 t19) fun t20 =>
  obind (ldCell h_19 t20) fun v21 =>
  obind (avInt .i64 v21) fun t21 =>
  obind (ldRow h_19 2 (newP h_4)) fun t22 =>
  obind (stRow h_19 1 [strA t17] (newP h_2)) fun h_44 =>
  chk (reLoad Try.prog h_44 27 (newP h_4) (.agg t22) && (reLoad Try.prog h_44 3 t20 (.int .i64 t21) && (reLoad Try.prog h_44 59 (newP h_9) v18 && (true && true)))) <|
  obind (stRow h_44 2 t22 (newP h_4)) fun h_47 =>
  obind (ldCell h_47 (newP h_2)) fun w4_50 =>
  obind (ldRow h_47 2 (newP h_4)) fun w6_52 =>
  some (.ret (.tup [w4_50, .int .i64 t21, .agg w6_52]), h_47))
set_option maxHeartbeats 4000000 in
set_option maxRecDepth 20000 in
theorem pattern_Quoted_ok {call : CallF} (hc : SaysAll Try.prog call) {n : Nat} {t0 : Bytes} {t1 : Int} {h : AHeap} {rR : ARes} {hR : AHeap} (hF : pattern_Quoted call n t0 t1 h = some (rR, hR)) : Says Try.prog 41 [strA t0, .int .i64 t1] h rR hR := by
 unfold pattern_Quoted at hF
 refine says_of (fn := Try.f41) Try.func41 (c := codeOf Try.f41) (by kernel_rfl) (by kernel_rfl) (fun w0 m0 => ?_)
 refine W.weaken (l' := [(0, strA t0), (1, .int .i64 t1)]) (Fr.c (Fr.c Fr.n)) ?_
 refine W.s (fun K1 n1 e1 q1 p1 => ?_)
 refine W.r ?_
 replace hF := lett_some hF; obtain ⟨h_2, e3, hF⟩ := hF
 refine WL.val (d := (some 3)) (v := (newP h)) (h' := h_2) (by kernel_rfl) (by kernel_rfl) (val_ofH e3 (by kernel_rfl)) ?_
 replace hF := lett_some hF; obtain ⟨h_4, e5, hF⟩ := hF
 refine WL.val (d := (some 4)) (v := (newP h_2)) (h' := h_4) (by kernel_rfl) (by kernel_rfl) (val_ofH e5 (by kernel_rfl)) ?_
 refine WL.a (some 5) (.int .i64 0) h_4 ?_
 replace hF := lett_some hF; obtain ⟨h_6, e7, hF⟩ := hF
 refine WL.val (d := (some 6)) (v := (newP h_4)) (h' := h_6) (by kernel_rfl) (by kernel_rfl) (val_ofH e7 (by kernel_rfl)) ?_
 refine WL.n ?_
 refine Go.weaken (l' := [(0, strA t0), (3, (newP h)), (4, (newP h_2)), (6, (newP h_4))]) (Fr.c (Fr.c (Fr.c (Fr.c Fr.n)))) ?_
 refine n1 ?_
 refine W.s (fun K8 n8 e8 q8 p8 => ?_)
 refine W.r ?_
 refine WL.a (some 8) (strA t0) h_6 ?_
 refine WL.a (some 9) (.agg ([strA t0, .int .i64 0] : List AV)) h_6 ?_
 replace hF := outK_some hF; obtain ⟨v10, h_9, e10, hF⟩ := hF
 refine WL.b (some 10) v10 h_9 e10 ?_
 replace hF := lett_some hF; obtain ⟨h_11, e12, hF⟩ := hF
 refine WL.val (d := (some 7)) (v := (newP h_9)) (h' := h_11) (by kernel_rfl) (by kernel_rfl) (val_ofH e12 (by kernel_rfl)) ?_
 replace hF := obind_some hF; obtain ⟨h_13, e14, hF⟩ := hF
 refine WL.e h_13 (store_row (P := Try.prog) (h := h_11) (t := 59) (v := v10) (by kernel_rfl) (by kernel_rfl) e14) ?_
 refine WL.n ?_
 refine Go.weaken (l' := [(3, (newP h)), (4, (newP h_2)), (6, (newP h_4)), (7, (newP h_9))]) (Fr.c (Fr.c (Fr.c (Fr.c Fr.n)))) ?_
 refine n8 ?_
 refine W.s (fun K15 n15 e15 q15 p15 => ?_)
 refine W.r ?_
 refine WL.a (some 11) (AV.fn 43 [] [(newP h_9), (newP h), (newP h_2)]) h_13 ?_
 replace hF := callN_some hF; obtain ⟨r12, h_16, e17, hF⟩ := hF
 replace hF := obind_some hF; obtain ⟨t12, c18, hF⟩ := hF
 have c18 := avAgg_some c18
 subst c18
 refine WL.c (hc.ok w0) (some 12) e17 ?_
 replace hF := obind_some hF; obtain ⟨h_19, e20, hF⟩ := hF
 refine WL.e h_19 (store_row (P := Try.prog) (h := h_16) (t := 27) (v := (.agg t12)) (by kernel_rfl) (by kernel_rfl) e20) ?_
 refine WL.n ?_
 refine Go.weaken (l' := [(4, (newP h_2)), (6, (newP h_4)), (7, (newP h_9))]) (Fr.c (Fr.c (Fr.c Fr.n))) ?_
 refine n15 ?_
 refine W.s (fun K21 n21 e21 q21 p21 => ?_)
 refine W.s (fun K22 n22 e22 q22 p22 => ?_)
 refine W.r ?_
 refine WL.a (some 13) (AV.ptr (AHeap.next h_4) 0) h_19 ?_
 replace hF := obind_some hF; obtain ⟨v14, e23, hF⟩ := hF
 replace hF := obind_some hF; obtain ⟨t14, c24, hF⟩ := hF
 have c24 := avInt_some c24
 subst c24
 refine WL.b (some 14) (.int .i64 t14) h_19 (load_cell (P := Try.prog) (h := h_19) (t := 25) (by kernel_rfl) e23) ?_
 replace hF := lett_some hF; obtain ⟨t15, e25, hF⟩ := hF
 refine WL.val (d := (some 15)) (v := .bool t15) (h' := h_19) (by kernel_rfl) (by kernel_rfl) (val_of AV.bool e25 (by kernel_rfl)) ?_
 refine WL.n ?_
 refine Go.weaken (l' := [(4, (newP h_2)), (6, (newP h_4)), (7, (newP h_9)), (15, .bool t15)]) (Fr.c (Fr.c (Fr.c (Fr.c Fr.n)))) ?_
 refine n22 ?_
 cases t15 with
 | true =>
  replace hF := ifB_t hF
  refine W.t ?_
  refine W.s (fun K26 n26 e26 q26 p26 => ?_)
  refine W.draw (by kernel_rfl) (hc.ok w0) (plan := [0, 1, 2, 3]) (by kernel_rfl) (by kernel_rfl) (by kernel_rfl) ?_
  replace hF := obind_some hF; obtain ⟨t16, e27, hF⟩ := hF
  refine WD.b 1 (some 16) (.agg t16) h_19 (load_row (P := Try.prog) (h := h_19) (t := 27) (by kernel_rfl) (by kernel_rfl) e27) ?_
  replace hF := obind_some hF; obtain ⟨h_28, e29, hF⟩ := hF
  replace hF := chk_some hF; obtain ⟨k30, hF⟩ := hF
  refine WD.eff (h' := h_28) (by kernel_rfl) (by kernel_rfl) (Eq.trans (by kernel_rfl) (store_row (P := Try.prog) (h := h_19) (t := 9) (v := (strA ([] : Bytes))) (by kernel_rfl) (by kernel_rfl) e29)) (k := 2) (by kernel_rfl) (fun _ => (Eq.trans (by kernel_rfl) k30)) (by decide) ?_
  refine WD.a 0 (some 5) (.int .i64 0) h_28 ?_
  replace hF := obind_some hF; obtain ⟨h_31, e32, hF⟩ := hF
  refine WD.eff (h' := h_31) (by kernel_rfl) (by kernel_rfl) (Eq.trans (by kernel_rfl) (store_row (P := Try.prog) (h := h_28) (t := 27) (v := (.agg t16)) (by kernel_rfl) (by kernel_rfl) e32)) (k := 2) (by kernel_rfl) (fun _ => (by kernel_rfl)) (by decide) ?_
  refine WD.nil ?_
  refine Go.weaken (l' := [(4, (newP h_2)), (5, .int .i64 0), (6, (newP h_4))]) (Fr.c (Fr.c (Fr.c Fr.n))) ?_
  refine n26 ?_
  refine W.ret (by kernel_rfl) ?_
  refine q21 ?_
  replace hF := obind_some hF; obtain ⟨w4, e33, hF⟩ := hF
  replace hF := obind_some hF; obtain ⟨w6, e34, hF⟩ := hF
  obtain ⟨hF, hF2⟩ := ret_inj hF; subst hF; subst hF2
  exact leave_of (rs := [.cell 4 9, .tmp 5, .cell 6 27]) (vs := [w4, .int .i64 0, .agg w6]) (by kernel_rfl) (res_cell (by kernel_rfl) (load_cell (P := Try.prog) (h := h_31) (t := 9) (by kernel_rfl) e33) (res_tmp (by kernel_rfl) (res_cell (by kernel_rfl) (load_row (P := Try.prog) (h := h_31) (t := 27) (by kernel_rfl) (by kernel_rfl) e34) res_nil))) (by kernel_rfl)
 | false =>
  replace hF := ifB_f hF
  refine W.f ?_
  refine W.skip (by kernel_rfl) ?_
  refine n21 ?_
  refine W.s (fun K35 n35 e35 q35 p35 => ?_)
  refine W.draw (by kernel_rfl) (hc.ok w0) (plan := [0, 1, 2, 3, 4, 5, 6, 7, 8]) (by kernel_rfl) (by kernel_rfl) (by kernel_rfl) ?_
  replace hF := obind_some hF; obtain ⟨v17, e36, hF⟩ := hF
  replace hF := obind_some hF; obtain ⟨t17, c37, hF⟩ := hF
  have c37 := avStr_some c37
  subst c37
  refine WD.b 1 (some 17) (strA t17) h_19 (load_cell (P := Try.prog) (h := h_19) (t := 9) (by kernel_rfl) e36) ?_
  replace hF := obind_some hF; obtain ⟨v18, e38, hF⟩ := hF
  refine WD.b 1 (some 18) v18 h_19 (load_cell (P := Try.prog) (h := h_19) (t := 59) (by kernel_rfl) e38) ?_
  replace hF := obind_some hF; obtain ⟨t19, e39, hF⟩ := hF
  refine WD.b 0 (some 19) t19 h_19 (nil_chk (h := h_19) e39) ?_
  replace hF := obind_some hF; obtain ⟨t20, e40, hF⟩ := hF
  refine WD.b 0 (some 20) t20 h_19 (field_ptr (P := Try.prog) (h := h_19) (s := 61) (f := 1) (by kernel_rfl) e40) ?_
  replace hF := obind_some hF; obtain ⟨v21, e41, hF⟩ := hF
  replace hF := obind_some hF; obtain ⟨t21, c42, hF⟩ := hF
  have c42 := avInt_some c42
  subst c42
  refine WD.b 1 (some 21) (.int .i64 t21) h_19 (load_cell (P := Try.prog) (h := h_19) (t := 3) (by kernel_rfl) e41) ?_
  replace hF := obind_some hF; obtain ⟨t22, e43, hF⟩ := hF
  refine WD.b 1 (some 22) (.agg t22) h_19 (load_row (P := Try.prog) (h := h_19) (t := 27) (by kernel_rfl) (by kernel_rfl) e43) ?_
  replace hF := obind_some hF; obtain ⟨h_44, e45, hF⟩ := hF
  replace hF := chk_some hF; obtain ⟨k46, hF⟩ := hF
  refine WD.eff (h' := h_44) (by kernel_rfl) (by kernel_rfl) (Eq.trans (by kernel_rfl) (store_row (P := Try.prog) (h := h_19) (t := 9) (v := (strA t17)) (by kernel_rfl) (by kernel_rfl) e45)) (k := 2) (by kernel_rfl) (fun _ => (Eq.trans (by kernel_rfl) k46)) (by decide) ?_
  refine WD.a 0 (some 5) (.int .i64 t21) h_44 ?_
  replace hF := obind_some hF; obtain ⟨h_47, e48, hF⟩ := hF
  refine WD.eff (h' := h_47) (by kernel_rfl) (by kernel_rfl) (Eq.trans (by kernel_rfl) (store_row (P := Try.prog) (h := h_44) (t := 27) (v := (.agg t22)) (by kernel_rfl) (by kernel_rfl) e48)) (k := 2) (by kernel_rfl) (fun _ => (by kernel_rfl)) (by decide) ?_
  refine WD.nil ?_
  refine Go.weaken (l' := [(4, (newP h_2)), (5, .int .i64 t21), (6, (newP h_4))]) (Fr.c (Fr.c (Fr.c Fr.n))) ?_
  refine n35 ?_
  refine W.ret (by kernel_rfl) ?_
  replace hF := obind_some hF; obtain ⟨w4_50, e49, hF⟩ := hF
  replace hF := obind_some hF; obtain ⟨w6_52, e51, hF⟩ := hF
  obtain ⟨hF, hF2⟩ := ret_inj hF; subst hF; subst hF2
  exact leave_of (rs := [.cell 4 9, .tmp 5, .cell 6 27]) (vs := [w4_50, .int .i64 t21, .agg w6_52]) (by kernel_rfl) (res_cell (by kernel_rfl) (load_cell (P := Try.prog) (h := h_47) (t := 9) (by kernel_rfl) e49) (res_tmp (by kernel_rfl) (res_cell (by kernel_rfl) (load_row (P := Try.prog) (h := h_47) (t := 27) (by kernel_rfl) (by kernel_rfl) e51) res_nil))) (by kernel_rfl)
noncomputable def pattern_Quoted_fn (call : CallF) (n : Nat) : FnT := fun args h => match args with
 | [x0, x1] => obind (avStr x0) fun t0 => obind (avInt .i64 x1) fun t1 => pattern_Quoted call n t0 t1 h
 | _ => none
set_option maxRecDepth 100000 in
theorem pattern_Quoted_fn_eq (call : CallF) (n : Nat) (t0 : Bytes) (t1 : Int) (h : AHeap) : pattern_Quoted_fn call n [strA t0, .int .i64 t1] h = pattern_Quoted call n t0 t1 h :=
 (Eq.trans (obind_eq (fun t0 => obind (avInt .i64 (.int .i64 t1)) fun t1 => pattern_Quoted call n t0 t1 h) (avStr_str t0)) (Eq.trans (obind_eq (fun t1 => pattern_Quoted call n t0 t1 h) (avInt_int .i64 t1)) rfl))
theorem pattern_Quoted_holds {call : CallF} (hc : SaysAll Try.prog call) (n : Nat) : Holds Try.prog 41 (pattern_Quoted_fn call n) := by
 intro args h r h2 e
 unfold pattern_Quoted_fn at e
 split at e
 ·replace e := obind_some e; obtain ⟨t0, c0, e⟩ := e; have c0 := avStr_some c0; subst c0
  replace e := obind_some e; obtain ⟨t1, c1, e⟩ := e; have c1 := avInt_some c1; subst c1
  exact pattern_Quoted_ok hc e
 ·cases e

noncomputable def pattern_Quoted_1 (call : CallF) (_ : Nat) (t0 : AV) (t1 : AV) (t2 : AV) (h : AHeap) : R :=
 obind (ldCell h t0) fun v3 =>
 obind (ldCell h t1) fun v4 =>
 obind (avInt .i64 v4) fun t4 =>
 callK (call 44 [v3, .int .i64 t4] h) fun r5 h_4 =>
 obind (avStr r5) fun t5 =>
 obind (stRow h_4 1 [strA t5] t2) fun h_7 =>
 some (.ret (.tup []), h_7)
set_option maxHeartbeats 4000000 in
set_option maxRecDepth 20000 in
theorem pattern_Quoted_1_ok {call : CallF} (hc : SaysAll Try.prog call) {n : Nat} {t0 : AV} {t1 : AV} {t2 : AV} {h : AHeap} {rR : ARes} {hR : AHeap} (hF : pattern_Quoted_1 call n t0 t1 t2 h = some (rR, hR)) : Says Try.prog 43 [t0, t1, t2] h rR hR := by
 unfold pattern_Quoted_1 at hF
 refine says_of (fn := Try.f43) Try.func43 (c := codeOf Try.f43) (by kernel_rfl) (by kernel_rfl) (fun w0 m0 => ?_)
 refine W.weaken (l' := [(0, t0), (1, t1), (2, t2)]) (Fr.c (Fr.c (Fr.c Fr.n))) ?_
 refine W.r ?_
 replace hF := obind_some hF; obtain ⟨v3, e1, hF⟩ := hF
 refine WL.b (some 3) v3 h (load_cell (P := Try.prog) (h := h) (t := 59) (by kernel_rfl) e1) ?_
 replace hF := obind_some hF; obtain ⟨v4, e2, hF⟩ := hF
 replace hF := obind_some hF; obtain ⟨t4, c3, hF⟩ := hF
 have c3 := avInt_some c3
 subst c3
 refine WL.b (some 4) (.int .i64 t4) h (load_cell (P := Try.prog) (h := h) (t := 3) (by kernel_rfl) e2) ?_
 replace hF := callK_some hF; rcases hF with ⟨r5, h_4, e5, hF⟩ | ⟨r5, h_4, e5, q9⟩
 ·replace hF := obind_some hF; obtain ⟨t5, c6, hF⟩ := hF
  have c6 := avStr_some c6
  subst c6
  refine WL.c (hc.ok w0) (some 5) e5 ?_
  replace hF := obind_some hF; obtain ⟨h_7, e8, hF⟩ := hF
  refine WL.e h_7 (store_row (P := Try.prog) (h := h_4) (t := 9) (v := (strA t5)) (by kernel_rfl) (by kernel_rfl) e8) ?_
  refine WL.n ?_
  refine Go.weaken (l' := []) Fr.n ?_
  obtain ⟨hF, hF2⟩ := ret_inj hF; subst hF; subst hF2
  exact leaveN_of (rs := []) (vs := []) (by kernel_rfl) res_nil (by kernel_rfl)
 ·obtain ⟨zq, zr⟩ := pan_inj q9; subst zq; subst zr
  exact WL.callPanic (hc.ok w0) (d := (some 5)) (by kernel_rfl) (by kernel_rfl) (by kernel_rfl) e5 Pan.fin
noncomputable def pattern_Quoted_1_fn (call : CallF) (n : Nat) : FnT := fun args h => match args with
 | [x0, x1, x2] => pattern_Quoted_1 call n x0 x1 x2 h
 | _ => none
set_option maxRecDepth 100000 in
theorem pattern_Quoted_1_fn_eq (call : CallF) (n : Nat) (t0 : AV) (t1 : AV) (t2 : AV) (h : AHeap) : pattern_Quoted_1_fn call n [t0, t1, t2] h = pattern_Quoted_1 call n t0 t1 t2 h :=
 rfl
theorem pattern_Quoted_1_holds {call : CallF} (hc : SaysAll Try.prog call) (n : Nat) : Holds Try.prog 43 (pattern_Quoted_1_fn call n) := by
 intro args h r h2 e
 unfold pattern_Quoted_1_fn at e
 split at e
 ·exact pattern_Quoted_1_ok hc e
 ·cases e

noncomputable def pattern_reader_quoted_L0b (call : CallF) (t0 : AV) (t1 : Int) (h_3 : AHeap) (k10 : AHeap → R) (self : AHeap → R) (h_17 : AHeap) : R :=
 callN (call 47 [t0, .int .u8 34] h_17) fun r9 h_20 =>
 obind (avBool r9) fun t9 =>
 lett (!t9) fun (t10 : Bool) =>
 ifB t10
 (
  callN (call 48 [(newP h_3)] h_20) fun r11 h_27 =>
  obind (avInt .i64 r11) fun t11 =>
  lett ((t11 : Int) == t1) fun (t13 : Bool) =>
  lett (fun  (h_32 : AHeap) =>
   callK (call 51 [t0] h_32) fun r20 h_33 =>
   obind (avInt .u8 r20) fun t20 =>
   callN (call 50 [(newP h_3), .int .u8 t20] h_33) fun _ h_36 =>
   self h_36) fun k31 =>
  ifB t13
  (
   obind (nilC t0) fun t15 =>
   obind (fldP 1 t15) fun t16 =>
   obind (ldCell h_27 t16) fun v17 =>
   obind (avInt .i64 v17) fun t17 =>
   callK (call 49 [.int .i64 3, .int .i64 t17] h_27) fun _ h_43 =>
   k31 h_43)
  (
   k31 h_27))
 (
  k10 h_20)
noncomputable def pattern_reader_quoted_L0 (call : CallF) (t0 : AV) (t1 : Int) (h_3 : AHeap) (k10 : AHeap → R) : Nat → AHeap → R := iterR (fun _ => none) (pattern_reader_quoted_L0b call t0 t1 h_3 k10)
theorem pattern_reader_quoted_L0_s (call : CallF) (t0 : AV) (t1 : Int) (h_3 : AHeap) (k10 : AHeap → R) (m : Nat) : pattern_reader_quoted_L0 call t0 t1 h_3 k10 (m + 1) = pattern_reader_quoted_L0b call t0 t1 h_3 k10 (pattern_reader_quoted_L0 call t0 t1 h_3 k10 m) := rfl
noncomputable def pattern_reader_quoted (call : CallF) (n : Nat) (t0 : AV) (t1 : Int) (h : AHeap) : R :=
 callK (call 46 [t0, .int .u8 34] h) fun _ h_3 =>
 lett (newH h_3 70 [.nilp, .nsl]) fun h_6 =>
 lett (fun  (h_11 : AHeap) =>
  callN (call 52 [(newP h_3)] h_11) fun r22 h_13 =>
  obind (avStr r22) fun t22 =>
  some (.ret (strA t22), h_13)) fun k10 =>
 pattern_reader_quoted_L0 call t0 t1 h_3 k10 n  h_6
set_option maxHeartbeats 4000000 in
set_option maxRecDepth 20000 in
theorem pattern_reader_quoted_ok {call : CallF} (hc : SaysAll Try.prog call) {n : Nat} {t0 : AV} {t1 : Int} {h : AHeap} {rR : ARes} {hR : AHeap} (hF : pattern_reader_quoted call n t0 t1 h = some (rR, hR)) : Says Try.prog 44 [t0, .int .i64 t1] h rR hR := by
 unfold pattern_reader_quoted at hF
 refine says_of (fn := Try.f44) Try.func44 (c := codeOf Try.f44) (by kernel_rfl) (by kernel_rfl) (fun w0 m0 => ?_)
 refine W.weaken (l' := [(0, t0), (1, .int .i64 t1)]) (Fr.c (Fr.c Fr.n)) ?_
 refine W.s (fun K1 n1 e1 q1 p1 => ?_)
 refine W.r ?_
 refine WL.a (some 4) (strA ([] : Bytes)) h ?_
 refine WL.n ?_
 refine Go.weaken (l' := [(0, t0), (1, .int .i64 t1)]) (Fr.c (Fr.c Fr.n)) ?_
 refine n1 ?_
 refine W.s (fun K2 n2 e2 q2 p2 => ?_)
 refine W.r ?_
 refine WL.a (some 6) t0 h ?_
 replace hF := callK_some hF; rcases hF with ⟨r7, h_3, e4, hF⟩ | ⟨r7, h_3, e4, q46⟩
 ·refine WL.c (hc.ok w0) (some 7) e4 ?_
  refine WL.n ?_
  refine Go.weaken (l' := [(0, t0), (1, .int .i64 t1)]) (Fr.c (Fr.c Fr.n)) ?_
  refine n2 ?_
  refine W.s (fun K5 n5 e5 q5 p5 => ?_)
  refine W.r ?_
  replace hF := lett_some hF; obtain ⟨h_6, e7, hF⟩ := hF
  refine WL.val (d := (some 5)) (v := (newP h_3)) (h' := h_6) (by kernel_rfl) (by kernel_rfl) (val_ofH e7 (by kernel_rfl)) ?_
  refine WL.n ?_
  refine Go.weaken (l' := [(0, t0), (1, .int .i64 t1), (5, (newP h_3))]) (Fr.c (Fr.c (Fr.c Fr.n))) ?_
  refine n5 ?_
  refine W.s (fun K8 n8 e8 q8 p8 => ?_)
  replace hF := lett_some hF; obtain ⟨k10, e10, hF⟩ := hF
  have J10 : ∀  (h_11 : AHeap), k10 h_11 = some (rR, hR) → Go w0 m0 (Func.ntmps Try.f44) (K8 .normal) [(5, (newP h_3))] [] h_11 := by
   intro  h_11 hF
   rw [e10] at hF
   refine n8 ?_
   refine W.s (fun K12 n12 e12 q12 p12 => ?_)
   refine W.r ?_
   replace hF := callN_some hF; obtain ⟨r22, h_13, e14, hF⟩ := hF
   replace hF := obind_some hF; obtain ⟨t22, c15, hF⟩ := hF
   have c15 := avStr_some c15
   subst c15
   refine WL.c (hc.ok w0) (some 22) e14 ?_
   refine WL.a (some 4) (strA t22) h_13 ?_
   refine WL.n ?_
   refine Go.weaken (l' := [(4, strA t22)]) (Fr.c Fr.n) ?_
   refine n12 ?_
   refine W.ret (by kernel_rfl) ?_
   obtain ⟨hF, hF2⟩ := ret_inj hF; subst hF; subst hF2
   exact leave_of (rs := [.tmp 4]) (vs := [strA t22]) (by kernel_rfl) (res_tmp (by kernel_rfl) res_nil) (by kernel_rfl)
  refine W.blockK (by kernel_rfl) (fun K9 n9 s9 o9 q9 p9 => ?_)
  refine W.loopK (by kernel_rfl) (fun I16 K16 b16 n16 e16 q16 p16 => ?_)
  have L16 : ∀ (m : Nat)  (h_17 : AHeap), pattern_reader_quoted_L0 call t0 t1 h_3 k10 m  h_17 = some (rR, hR) → Go w0 m0 (Func.ntmps Try.f44) I16 [(0, t0), (1, .int .i64 t1), (5, (newP h_3))] [] h_17 := by
   intro m
   induction m with
   | zero => intro  h_17 hF; cases hF
   | succ m ih16 =>
    intro  h_17 hF
    rw [pattern_reader_quoted_L0_s] at hF; unfold pattern_reader_quoted_L0b at hF
    refine b16 ?_
    refine W.s (fun K18 n18 e18 q18 p18 => ?_)
    refine W.s (fun K19 n19 e19 q19 p19 => ?_)
    refine W.r ?_
    refine WL.a (some 8) t0 h_17 ?_
    replace hF := callN_some hF; obtain ⟨r9, h_20, e21, hF⟩ := hF
    replace hF := obind_some hF; obtain ⟨t9, c22, hF⟩ := hF
    have c22 := avBool_some c22
    subst c22
    refine WL.c (hc.ok w0) (some 9) e21 ?_
    replace hF := lett_some hF; obtain ⟨t10, e23, hF⟩ := hF
    refine WL.val (d := (some 10)) (v := .bool t10) (h' := h_20) (by kernel_rfl) (by kernel_rfl) (val_of AV.bool e23 (by kernel_rfl)) ?_
    refine WL.n ?_
    refine Go.weaken (l' := [(0, t0), (1, .int .i64 t1), (5, (newP h_3)), (10, .bool t10)]) (Fr.c (Fr.c (Fr.c (Fr.c Fr.n)))) ?_
    refine n19 ?_
    cases t10 with
    | true =>
     replace hF := ifB_t hF
     refine W.t ?_
     refine W.skip (by kernel_rfl) ?_
     refine n18 ?_
     refine W.blockK (by kernel_rfl) (fun K24 n24 s24 o24 q24 p24 => ?_)
     refine W.s (fun K25 n25 e25 q25 p25 => ?_)
     refine W.s (fun K26 n26 e26 q26 p26 => ?_)
     refine W.r ?_
     replace hF := callN_some hF; obtain ⟨r11, h_27, e28, hF⟩ := hF
     replace hF := obind_some hF; obtain ⟨t11, c29, hF⟩ := hF
     have c29 := avInt_some c29
     subst c29
     refine WL.c (hc.ok w0) (some 11) e28 ?_
     refine WL.a (some 12) (.int .i64 t1) h_27 ?_
     replace hF := lett_some hF; obtain ⟨t13, e30, hF⟩ := hF
     refine WL.val (d := (some 13)) (v := .bool t13) (h' := h_27) (by kernel_rfl) (by kernel_rfl) (val_of AV.bool e30 (by kernel_rfl)) ?_
     refine WL.n ?_
     refine Go.weaken (l' := [(0, t0), (1, .int .i64 t1), (5, (newP h_3)), (13, .bool t13)]) (Fr.c (Fr.c (Fr.c (Fr.c Fr.n)))) ?_
     refine n26 ?_
     replace hF := lett_some hF; obtain ⟨k31, e31, hF⟩ := hF
     have J31 : ∀  (h_32 : AHeap), k31 h_32 = some (rR, hR) → Go w0 m0 (Func.ntmps Try.f44) (K25 .normal) [(0, t0), (1, .int .i64 t1), (5, (newP h_3))] [] h_32 := by
      intro  h_32 hF
      rw [e31] at hF
      refine n25 ?_
      refine W.r ?_
      refine WL.a (some 19) t0 h_32 ?_
      replace hF := callK_some hF; rcases hF with ⟨r20, h_33, e34, hF⟩ | ⟨r20, h_33, e34, q38⟩
      ·replace hF := obind_some hF; obtain ⟨t20, c35, hF⟩ := hF
       have c35 := avInt_some c35
       subst c35
       refine WL.c (hc.ok w0) (some 20) e34 ?_
       replace hF := callN_some hF; obtain ⟨r21, h_36, e37, hF⟩ := hF
       refine WL.c (hc.ok w0) (some 21) e37 ?_
       refine WL.n ?_
       refine Go.weaken (l' := [(0, t0), (1, .int .i64 t1), (5, (newP h_3))]) (Fr.c (Fr.c (Fr.c Fr.n))) ?_
       refine n24 ?_
       refine n16 ?_
       exact Go.weaken (Fr.c (Fr.c (Fr.c Fr.n))) (ih16 _ hF)
      ·obtain ⟨zq, zr⟩ := pan_inj q38; subst zq; subst zr
       exact WL.callPanic (hc.ok w0) (d := (some 20)) (by kernel_rfl) (by kernel_rfl) (by kernel_rfl) e34 (p24 (p16 (p9 (p8 Pan.fin))))
     cases t13 with
     | true =>
      replace hF := ifB_t hF
      refine W.t ?_
      refine W.r ?_
      refine WL.a (some 14) t0 h_27 ?_
      replace hF := obind_some hF; obtain ⟨t15, e39, hF⟩ := hF
      refine WL.b (some 15) t15 h_27 (nil_chk (h := h_27) e39) ?_
      replace hF := obind_some hF; obtain ⟨t16, e40, hF⟩ := hF
      refine WL.b (some 16) t16 h_27 (field_ptr (P := Try.prog) (h := h_27) (s := 61) (f := 1) (by kernel_rfl) e40) ?_
      replace hF := obind_some hF; obtain ⟨v17, e41, hF⟩ := hF
      replace hF := obind_some hF; obtain ⟨t17, c42, hF⟩ := hF
      have c42 := avInt_some c42
      subst c42
      refine WL.b (some 17) (.int .i64 t17) h_27 (load_cell (P := Try.prog) (h := h_27) (t := 3) (by kernel_rfl) e41) ?_
      replace hF := callK_some hF; rcases hF with ⟨r18, h_43, e44, hF⟩ | ⟨r18, h_43, e44, q45⟩
      ·refine WL.c (hc.ok w0) (some 18) e44 ?_
       refine WL.n ?_
       refine Go.weaken (l' := [(0, t0), (1, .int .i64 t1), (5, (newP h_3))]) (Fr.c (Fr.c (Fr.c Fr.n))) ?_
       exact Go.weaken (Fr.c (Fr.c (Fr.c Fr.n))) (J31 _ hF)
      ·obtain ⟨zq, zr⟩ := pan_inj q45; subst zq; subst zr
       exact WL.callPanic (hc.ok w0) (d := (some 18)) (by kernel_rfl) (by kernel_rfl) (by kernel_rfl) e44 (p25 (p24 (p16 (p9 (p8 Pan.fin)))))
     | false =>
      replace hF := ifB_f hF
      refine W.f ?_
      refine W.skip (by kernel_rfl) ?_
      exact Go.weaken (Fr.c (Fr.c (Fr.c Fr.n))) (J31 _ hF)
    | false =>
     replace hF := ifB_f hF
     refine W.f ?_
     refine W.exit (by kernel_rfl) ?_
     refine e18 ?_
     refine e16 ?_
     refine s9 (by kernel_rfl) ?_
     exact Go.weaken (Fr.c Fr.n) (J10 _ hF)
  exact Go.weaken (Fr.c (Fr.c (Fr.c Fr.n))) (L16 _ _ hF)
 ·obtain ⟨zq, zr⟩ := pan_inj q46; subst zq; subst zr
  exact WL.callPanic (hc.ok w0) (d := (some 7)) (by kernel_rfl) (by kernel_rfl) (by kernel_rfl) e4 (p2 Pan.fin)
noncomputable def pattern_reader_quoted_fn (call : CallF) (n : Nat) : FnT := fun args h => match args with
 | [x0, x1] => obind (avInt .i64 x1) fun t1 => pattern_reader_quoted call n x0 t1 h
 | _ => none
set_option maxRecDepth 100000 in
theorem pattern_reader_quoted_fn_eq (call : CallF) (n : Nat) (t0 : AV) (t1 : Int) (h : AHeap) : pattern_reader_quoted_fn call n [t0, .int .i64 t1] h = pattern_reader_quoted call n t0 t1 h :=
 (Eq.trans (obind_eq (fun t1 => pattern_reader_quoted call n t0 t1 h) (avInt_int .i64 t1)) rfl)
theorem pattern_reader_quoted_holds {call : CallF} (hc : SaysAll Try.prog call) (n : Nat) : Holds Try.prog 44 (pattern_reader_quoted_fn call n) := by
 intro args h r h2 e
 unfold pattern_reader_quoted_fn at e
 split at e
 ·replace e := obind_some e; obtain ⟨t1, c1, e⟩ := e; have c1 := avInt_some c1; subst c1
  exact pattern_reader_quoted_ok hc e
 ·cases e

noncomputable def pattern_reader_take (call : CallF) (_ : Nat) (t0 : AV) (t1 : Int) (h : AHeap) : R :=
 callN (call 47 [t0, .int .u8 t1] h) fun r6 h_2 =>
 obind (avBool r6) fun t6 =>
 lett (!t6) fun (t7 : Bool) =>
 lett (fun  (h_7 : AHeap) =>
  some (.ret (.tup []), h_7)) fun k6 =>
 ifB t7
 (
  obind (nilC t0) fun t9 =>
  obind (fldP 1 t9) fun t10 =>
  obind (ldCell h_2 t10) fun v11 =>
  obind (avInt .i64 v11) fun t11 =>
  callK (call 49 [.int .i64 6, .int .i64 t11] h_2) fun _ h_12 =>
  k6 h_12)
 (
  k6 h_2)
set_option maxHeartbeats 4000000 in
set_option maxRecDepth 20000 in
theorem pattern_reader_take_ok {call : CallF} (hc : SaysAll Try.prog call) {n : Nat} {t0 : AV} {t1 : Int} {h : AHeap} {rR : ARes} {hR : AHeap} (hF : pattern_reader_take call n t0 t1 h = some (rR, hR)) : Says Try.prog 46 [t0, .int .u8 t1] h rR hR := by
 unfold pattern_reader_take at hF
 refine says_of (fn := Try.f46) Try.func46 (c := codeOf Try.f46) (by kernel_rfl) (by kernel_rfl) (fun w0 m0 => ?_)
 refine W.weaken (l' := [(0, t0), (1, .int .u8 t1)]) (Fr.c (Fr.c Fr.n)) ?_
 refine W.s (fun K1 n1 e1 q1 p1 => ?_)
 refine W.r ?_
 refine WL.a (some 4) t0 h ?_
 refine WL.a (some 5) (.int .u8 t1) h ?_
 replace hF := callN_some hF; obtain ⟨r6, h_2, e3, hF⟩ := hF
 replace hF := obind_some hF; obtain ⟨t6, c4, hF⟩ := hF
 have c4 := avBool_some c4
 subst c4
 refine WL.c (hc.ok w0) (some 6) e3 ?_
 replace hF := lett_some hF; obtain ⟨t7, e5, hF⟩ := hF
 refine WL.val (d := (some 7)) (v := .bool t7) (h' := h_2) (by kernel_rfl) (by kernel_rfl) (val_of AV.bool e5 (by kernel_rfl)) ?_
 refine WL.n ?_
 refine Go.weaken (l' := [(0, t0), (7, .bool t7)]) (Fr.c (Fr.c Fr.n)) ?_
 refine n1 ?_
 replace hF := lett_some hF; obtain ⟨k6, e6, hF⟩ := hF
 have J6 : ∀  (h_7 : AHeap), k6 h_7 = some (rR, hR) → Go w0 m0 (Func.ntmps Try.f46) (Fin Try.prog Try.f46 w0 m0 rR hR .normal) [] [] h_7 := by
  intro  h_7 hF
  rw [e6] at hF
  obtain ⟨hF, hF2⟩ := ret_inj hF; subst hF; subst hF2
  exact leaveN_of (rs := []) (vs := []) (by kernel_rfl) res_nil (by kernel_rfl)
 cases t7 with
 | true =>
  replace hF := ifB_t hF
  refine W.t ?_
  refine W.r ?_
  refine WL.a (some 8) t0 h_2 ?_
  replace hF := obind_some hF; obtain ⟨t9, e8, hF⟩ := hF
  refine WL.b (some 9) t9 h_2 (nil_chk (h := h_2) e8) ?_
  replace hF := obind_some hF; obtain ⟨t10, e9, hF⟩ := hF
  refine WL.b (some 10) t10 h_2 (field_ptr (P := Try.prog) (h := h_2) (s := 61) (f := 1) (by kernel_rfl) e9) ?_
  replace hF := obind_some hF; obtain ⟨v11, e10, hF⟩ := hF
  replace hF := obind_some hF; obtain ⟨t11, c11, hF⟩ := hF
  have c11 := avInt_some c11
  subst c11
  refine WL.b (some 11) (.int .i64 t11) h_2 (load_cell (P := Try.prog) (h := h_2) (t := 3) (by kernel_rfl) e10) ?_
  replace hF := callK_some hF; rcases hF with ⟨r12, h_12, e13, hF⟩ | ⟨r12, h_12, e13, q14⟩
  ·refine WL.c (hc.ok w0) (some 12) e13 ?_
   refine WL.n ?_
   refine Go.weaken (l' := []) Fr.n ?_
   exact Go.weaken Fr.n (J6 _ hF)
  ·obtain ⟨zq, zr⟩ := pan_inj q14; subst zq; subst zr
   exact WL.callPanic (hc.ok w0) (d := (some 12)) (by kernel_rfl) (by kernel_rfl) (by kernel_rfl) e13 Pan.fin
 | false =>
  replace hF := ifB_f hF
  refine W.f ?_
  refine W.skip (by kernel_rfl) ?_
  exact Go.weaken Fr.n (J6 _ hF)
noncomputable def pattern_reader_take_fn (call : CallF) (n : Nat) : FnT := fun args h => match args with
 | [x0, x1] => obind (avInt .u8 x1) fun t1 => pattern_reader_take call n x0 t1 h
 | _ => none
set_option maxRecDepth 100000 in
theorem pattern_reader_take_fn_eq (call : CallF) (n : Nat) (t0 : AV) (t1 : Int) (h : AHeap) : pattern_reader_take_fn call n [t0, .int .u8 t1] h = pattern_reader_take call n t0 t1 h :=
 (Eq.trans (obind_eq (fun t1 => pattern_reader_take call n t0 t1 h) (avInt_int .u8 t1)) rfl)
theorem pattern_reader_take_holds {call : CallF} (hc : SaysAll Try.prog call) (n : Nat) : Holds Try.prog 46 (pattern_reader_take_fn call n) := by
 intro args h r h2 e
 unfold pattern_reader_take_fn at e
 split at e
 ·replace e := obind_some e; obtain ⟨t1, c1, e⟩ := e; have c1 := avInt_some c1; subst c1
  exact pattern_reader_take_ok hc e
 ·cases e

noncomputable def pattern_reader_skips (call : CallF) (_ : Nat) (t0 : AV) (t1 : Int) (h : AHeap) : R :=
 callN (call 53 [t0, .int .u8 t1] h) fun r7 h_4 =>
 obind (avBool r7) fun t7 =>
 lett (!t7) fun (t8 : Bool) =>
 ifB t8
 (
  some (.ret (.bool false), h_4))
 (
  obind (nilC t0) fun t10 =>
  obind (fldP 1 t10) fun t11 =>
  obind (ldCell h_4 t11) fun v12 =>
  obind (avInt .i64 v12) fun t12 =>
  lett (IntKind.i64.wrap (t12 + 1)) fun (t13 : Int) =>
  obind (nilC t0) fun t14 =>
  obind (fldP 1 t14) fun t15 =>
  obind (stRow h_4 1 [.int .i64 t13] t15) fun h_17 =>
  some (.ret (.bool true), h_17))
set_option maxHeartbeats 4000000 in
set_option maxRecDepth 20000 in
theorem pattern_reader_skips_ok {call : CallF} (hc : SaysAll Try.prog call) {n : Nat} {t0 : AV} {t1 : Int} {h : AHeap} {rR : ARes} {hR : AHeap} (hF : pattern_reader_skips call n t0 t1 h = some (rR, hR)) : Says Try.prog 47 [t0, .int .u8 t1] h rR hR := by
 unfold pattern_reader_skips at hF
 refine says_of (fn := Try.f47) Try.func47 (c := codeOf Try.f47) (by kernel_rfl) (by kernel_rfl) (fun w0 m0 => ?_)
 refine W.weaken (l' := [(0, t0), (1, .int .u8 t1)]) (Fr.c (Fr.c Fr.n)) ?_
 refine W.s (fun K1 n1 e1 q1 p1 => ?_)
 refine W.r ?_
 refine WL.a (some 4) (.bool false) h ?_
 refine WL.n ?_
 refine Go.weaken (l' := [(0, t0), (1, .int .u8 t1)]) (Fr.c (Fr.c Fr.n)) ?_
 refine n1 ?_
 refine W.s (fun K2 n2 e2 q2 p2 => ?_)
 refine W.s (fun K3 n3 e3 q3 p3 => ?_)
 refine W.r ?_
 refine WL.a (some 5) t0 h ?_
 refine WL.a (some 6) (.int .u8 t1) h ?_
 replace hF := callN_some hF; obtain ⟨r7, h_4, e5, hF⟩ := hF
 replace hF := obind_some hF; obtain ⟨t7, c6, hF⟩ := hF
 have c6 := avBool_some c6
 subst c6
 refine WL.c (hc.ok w0) (some 7) e5 ?_
 replace hF := lett_some hF; obtain ⟨t8, e7, hF⟩ := hF
 refine WL.val (d := (some 8)) (v := .bool t8) (h' := h_4) (by kernel_rfl) (by kernel_rfl) (val_of AV.bool e7 (by kernel_rfl)) ?_
 refine WL.n ?_
 refine Go.weaken (l' := [(0, t0), (8, .bool t8)]) (Fr.c (Fr.c Fr.n)) ?_
 refine n3 ?_
 cases t8 with
 | true =>
  replace hF := ifB_t hF
  refine W.t ?_
  refine W.s (fun K8 n8 e8 q8 p8 => ?_)
  refine W.r ?_
  refine WL.a (some 4) (.bool false) h_4 ?_
  refine WL.n ?_
  refine Go.weaken (l' := [(4, .bool false)]) (Fr.c Fr.n) ?_
  refine n8 ?_
  refine W.ret (by kernel_rfl) ?_
  refine q2 ?_
  obtain ⟨hF, hF2⟩ := ret_inj hF; subst hF; subst hF2
  exact leave_of (rs := [.tmp 4]) (vs := [.bool false]) (by kernel_rfl) (res_tmp (by kernel_rfl) res_nil) (by kernel_rfl)
 | false =>
  replace hF := ifB_f hF
  refine W.f ?_
  refine W.skip (by kernel_rfl) ?_
  refine n2 ?_
  refine W.s (fun K9 n9 e9 q9 p9 => ?_)
  refine W.r ?_
  refine WL.a (some 9) t0 h_4 ?_
  replace hF := obind_some hF; obtain ⟨t10, e10, hF⟩ := hF
  refine WL.b (some 10) t10 h_4 (nil_chk (h := h_4) e10) ?_
  replace hF := obind_some hF; obtain ⟨t11, e11, hF⟩ := hF
  refine WL.b (some 11) t11 h_4 (field_ptr (P := Try.prog) (h := h_4) (s := 61) (f := 1) (by kernel_rfl) e11) ?_
  replace hF := obind_some hF; obtain ⟨v12, e12, hF⟩ := hF
  replace hF := obind_some hF; obtain ⟨t12, c13, hF⟩ := hF
  have c13 := avInt_some c13
  subst c13
  refine WL.b (some 12) (.int .i64 t12) h_4 (load_cell (P := Try.prog) (h := h_4) (t := 3) (by kernel_rfl) e12) ?_
  replace hF := lett_some hF; obtain ⟨t13, e14, hF⟩ := hF
  refine WL.val (d := (some 13)) (v := .int .i64 t13) (h' := h_4) (by kernel_rfl) (by kernel_rfl) (val_of (AV.int .i64) e14 (by kernel_rfl)) ?_
  replace hF := obind_some hF; obtain ⟨t14, e15, hF⟩ := hF
  refine WL.b (some 14) t14 h_4 (nil_chk (h := h_4) e15) ?_
  replace hF := obind_some hF; obtain ⟨t15, e16, hF⟩ := hF
  refine WL.b (some 15) t15 h_4 (field_ptr (P := Try.prog) (h := h_4) (s := 61) (f := 1) (by kernel_rfl) e16) ?_
  replace hF := obind_some hF; obtain ⟨h_17, e18, hF⟩ := hF
  refine WL.e h_17 (store_row (P := Try.prog) (h := h_4) (t := 3) (v := (.int .i64 t13)) (by kernel_rfl) (by kernel_rfl) e18) ?_
  refine WL.n ?_
  refine Go.weaken (l' := []) Fr.n ?_
  refine n9 ?_
  refine W.s (fun K19 n19 e19 q19 p19 => ?_)
  refine W.r ?_
  refine WL.a (some 4) (.bool true) h_17 ?_
  refine WL.n ?_
  refine Go.weaken (l' := [(4, .bool true)]) (Fr.c Fr.n) ?_
  refine n19 ?_
  refine W.ret (by kernel_rfl) ?_
  obtain ⟨hF, hF2⟩ := ret_inj hF; subst hF; subst hF2
  exact leave_of (rs := [.tmp 4]) (vs := [.bool true]) (by kernel_rfl) (res_tmp (by kernel_rfl) res_nil) (by kernel_rfl)
noncomputable def pattern_reader_skips_fn (call : CallF) (n : Nat) : FnT := fun args h => match args with
 | [x0, x1] => obind (avInt .u8 x1) fun t1 => pattern_reader_skips call n x0 t1 h
 | _ => none
set_option maxRecDepth 100000 in
theorem pattern_reader_skips_fn_eq (call : CallF) (n : Nat) (t0 : AV) (t1 : Int) (h : AHeap) : pattern_reader_skips_fn call n [t0, .int .u8 t1] h = pattern_reader_skips call n t0 t1 h :=
 (Eq.trans (obind_eq (fun t1 => pattern_reader_skips call n t0 t1 h) (avInt_int .u8 t1)) rfl)
theorem pattern_reader_skips_holds {call : CallF} (hc : SaysAll Try.prog call) (n : Nat) : Holds Try.prog 47 (pattern_reader_skips_fn call n) := by
 intro args h r h2 e
 unfold pattern_reader_skips_fn at e
 split at e
 ·replace e := obind_some e; obtain ⟨t1, c1, e⟩ := e; have c1 := avInt_some c1; subst c1
  exact pattern_reader_skips_ok hc e
 ·cases e

noncomputable def pattern_reader_sees (call : CallF) (_ : Nat) (t0 : AV) (t1 : Int) (h : AHeap) : R :=
 lett (fun (t4 : Bool) (h_4 : AHeap) =>
  some (.ret (.bool t4), h_4)) fun k3 =>
 callN (call 59 [t0] h) fun r6 h_5 =>
 obind (avBool r6) fun t6 =>
 lett (!t6) fun (t7 : Bool) =>
 ifB t7
 (
  obind (nilC t0) fun t10 =>
  obind (fldP 0 t10) fun t11 =>
  obind (ldCell h_5 t11) fun v12 =>
  obind (avStr v12) fun t12 =>
  obind (nilC t0) fun t14 =>
  obind (fldP 1 t14) fun t15 =>
  obind (ldCell h_5 t15) fun v16 =>
  obind (avInt .i64 v16) fun t16 =>
  obind (idxS t12 t16) fun t17 =>
  lett ((t17 : Int) == t1) fun (t19 : Bool) =>
  k3 t19 h_5)
 (
  k3 false h_5)
set_option maxHeartbeats 4000000 in
set_option maxRecDepth 20000 in
theorem pattern_reader_sees_ok {call : CallF} (hc : SaysAll Try.prog call) {n : Nat} {t0 : AV} {t1 : Int} {h : AHeap} {rR : ARes} {hR : AHeap} (hF : pattern_reader_sees call n t0 t1 h = some (rR, hR)) : Says Try.prog 53 [t0, .int .u8 t1] h rR hR := by
 unfold pattern_reader_sees at hF
 refine says_of (fn := Try.f53) Try.func53 (c := codeOf Try.f53) (by kernel_rfl) (by kernel_rfl) (fun w0 m0 => ?_)
 refine W.weaken (l' := [(0, t0), (1, .int .u8 t1)]) (Fr.c (Fr.c Fr.n)) ?_
 refine W.s (fun K1 n1 e1 q1 p1 => ?_)
 refine W.r ?_
 refine WL.a (some 4) (.bool false) h ?_
 refine WL.n ?_
 refine Go.weaken (l' := [(0, t0), (1, .int .u8 t1)]) (Fr.c (Fr.c Fr.n)) ?_
 refine n1 ?_
 refine W.s (fun K2 n2 e2 q2 p2 => ?_)
 replace hF := lett_some hF; obtain ⟨k3, e3, hF⟩ := hF
 have J3 : ∀ (t4 : Bool) (h_4 : AHeap), k3 t4 h_4 = some (rR, hR) → Go w0 m0 (Func.ntmps Try.f53) (K2 .normal) [(4, .bool t4)] [] h_4 := by
  intro t4 h_4 hF
  rw [e3] at hF
  refine n2 ?_
  refine W.ret (by kernel_rfl) ?_
  obtain ⟨hF, hF2⟩ := ret_inj hF; subst hF; subst hF2
  exact leave_of (rs := [.tmp 4]) (vs := [.bool t4]) (by kernel_rfl) (res_tmp (by kernel_rfl) res_nil) (by kernel_rfl)
 refine W.draw (by kernel_rfl) (hc.ok w0) (plan := [0, 1, 2, 3, 4, 5, 6, 7, 8, 9, 10, 11, 12, 13, 14, 15, 16]) (by kernel_rfl) (by kernel_rfl) (by kernel_rfl) ?_
 refine WD.a 0 (some 5) t0 h ?_
 replace hF := callN_some hF; obtain ⟨r6, h_5, e6, hF⟩ := hF
 replace hF := obind_some hF; obtain ⟨t6, c7, hF⟩ := hF
 have c7 := avBool_some c7
 subst c7
 refine WD.call (d := (some 6)) (by kernel_rfl) (by kernel_rfl) (by kernel_rfl) e6 (k := 2) (by kernel_rfl) (fun _ => (by kernel_rfl)) (by decide) ?_
 replace hF := lett_some hF; obtain ⟨t7, e8, hF⟩ := hF
 refine WD.val (d := (some 7)) (v := .bool t7) (h' := h_5) (by kernel_rfl) (by kernel_rfl) (val_of AV.bool e8 (by kernel_rfl)) (k := 0) (by kernel_rfl) (fun e => absurd e (by decide)) (by decide) ?_
 refine WD.a 0 (some 8) (.bool t7) h_5 ?_
 cases t7 with
 | true =>
  replace hF := ifB_t hF
  refine WD.a 0 (some 9) t0 h_5 ?_
  replace hF := obind_some hF; obtain ⟨t10, e9, hF⟩ := hF
  refine WD.b 0 (some 10) t10 h_5 (nil_chk (h := h_5) e9) ?_
  replace hF := obind_some hF; obtain ⟨t11, e10, hF⟩ := hF
  refine WD.b 0 (some 11) t11 h_5 (field_ptr (P := Try.prog) (h := h_5) (s := 61) (f := 0) (by kernel_rfl) e10) ?_
  replace hF := obind_some hF; obtain ⟨v12, e11, hF⟩ := hF
  replace hF := obind_some hF; obtain ⟨t12, c12, hF⟩ := hF
  have c12 := avStr_some c12
  subst c12
  refine WD.b 1 (some 12) (strA t12) h_5 (load_cell (P := Try.prog) (h := h_5) (t := 9) (by kernel_rfl) e11) ?_
  refine WD.a 0 (some 13) t0 h_5 ?_
  replace hF := obind_some hF; obtain ⟨t14, e13, hF⟩ := hF
  refine WD.b 0 (some 14) t14 h_5 (nil_chk (h := h_5) e13) ?_
  replace hF := obind_some hF; obtain ⟨t15, e14, hF⟩ := hF
  refine WD.b 0 (some 15) t15 h_5 (field_ptr (P := Try.prog) (h := h_5) (s := 61) (f := 1) (by kernel_rfl) e14) ?_
  replace hF := obind_some hF; obtain ⟨v16, e15, hF⟩ := hF
  replace hF := obind_some hF; obtain ⟨t16, c16, hF⟩ := hF
  have c16 := avInt_some c16
  subst c16
  refine WD.b 1 (some 16) (.int .i64 t16) h_5 (load_cell (P := Try.prog) (h := h_5) (t := 3) (by kernel_rfl) e15) ?_
  replace hF := obind_some hF; obtain ⟨t17, e17, hF⟩ := hF
  refine WD.b 0 (some 17) (.int .u8 t17) h_5 (index_str (P := Try.prog) (h := h_5) (t := 9) (k := .i64) (by kernel_rfl) e17) ?_
  refine WD.a 0 (some 18) (.int .u8 t1) h_5 ?_
  replace hF := lett_some hF; obtain ⟨t19, e18, hF⟩ := hF
  refine WD.val (d := (some 19)) (v := .bool t19) (h' := h_5) (by kernel_rfl) (by kernel_rfl) (val_of AV.bool e18 (by kernel_rfl)) (k := 0) (by kernel_rfl) (fun e => absurd e (by decide)) (by decide) ?_
  refine WD.a 0 (some 20) (.bool t19) h_5 ?_
  refine WD.a 0 (some 4) (.bool t19) h_5 ?_
  refine WD.nil ?_
  exact Go.weaken (Fr.c Fr.n) (J3 _ _ hF)
 | false =>
  replace hF := ifB_f hF
  refine WD.not (d := (some 9)) (by kernel_rfl) (by kernel_rfl) (k := 0) (by kernel_rfl) (fun e => absurd e (by decide)) (by decide) ?_
  refine WD.not (d := (some 10)) (by kernel_rfl) (by kernel_rfl) (k := 0) (by kernel_rfl) (fun e => absurd e (by decide)) (by decide) ?_
  refine WD.not (d := (some 11)) (by kernel_rfl) (by kernel_rfl) (k := 0) (by kernel_rfl) (fun e => absurd e (by decide)) (by decide) ?_
  refine WD.not (d := (some 12)) (by kernel_rfl) (by kernel_rfl) (k := 1) (by kernel_rfl) (fun e => absurd e (by decide)) (by decide) ?_
  refine WD.not (d := (some 13)) (by kernel_rfl) (by kernel_rfl) (k := 0) (by kernel_rfl) (fun e => absurd e (by decide)) (by decide) ?_
  refine WD.not (d := (some 14)) (by kernel_rfl) (by kernel_rfl) (k := 0) (by kernel_rfl) (fun e => absurd e (by decide)) (by decide) ?_
  refine WD.not (d := (some 15)) (by kernel_rfl) (by kernel_rfl) (k := 0) (by kernel_rfl) (fun e => absurd e (by decide)) (by decide) ?_
  refine WD.not (d := (some 16)) (by kernel_rfl) (by kernel_rfl) (k := 1) (by kernel_rfl) (fun e => absurd e (by decide)) (by decide) ?_
  refine WD.not (d := (some 17)) (by kernel_rfl) (by kernel_rfl) (k := 0) (by kernel_rfl) (fun e => absurd e (by decide)) (by decide) ?_
  refine WD.not (d := (some 18)) (by kernel_rfl) (by kernel_rfl) (k := 0) (by kernel_rfl) (fun e => absurd e (by decide)) (by decide) ?_
  refine WD.not (d := (some 19)) (by kernel_rfl) (by kernel_rfl) (k := 0) (by kernel_rfl) (fun e => absurd e (by decide)) (by decide) ?_
  refine WD.a 0 (some 20) (.bool false) h_5 ?_
  refine WD.a 0 (some 4) (.bool false) h_5 ?_
  refine WD.nil ?_
  exact Go.weaken (Fr.c Fr.n) (J3 _ _ hF)
noncomputable def pattern_reader_sees_fn (call : CallF) (n : Nat) : FnT := fun args h => match args with
 | [x0, x1] => obind (avInt .u8 x1) fun t1 => pattern_reader_sees call n x0 t1 h
 | _ => none
set_option maxRecDepth 100000 in
theorem pattern_reader_sees_fn_eq (call : CallF) (n : Nat) (t0 : AV) (t1 : Int) (h : AHeap) : pattern_reader_sees_fn call n [t0, .int .u8 t1] h = pattern_reader_sees call n t0 t1 h :=
 (Eq.trans (obind_eq (fun t1 => pattern_reader_sees call n t0 t1 h) (avInt_int .u8 t1)) rfl)
theorem pattern_reader_sees_holds {call : CallF} (hc : SaysAll Try.prog call) (n : Nat) : Holds Try.prog 53 (pattern_reader_sees_fn call n) := by
 intro args h r h2 e
 unfold pattern_reader_sees_fn at e
 split at e
 ·replace e := obind_some e; obtain ⟨t1, c1, e⟩ := e; have c1 := avInt_some c1; subst c1
  exact pattern_reader_sees_ok hc e
 ·cases e

noncomputable def pattern_reader_ended (_ : CallF) (_ : Nat) (t0 : AV) (h : AHeap) : R :=
 obind (nilC t0) fun t4 =>
 obind (fldP 1 t4) fun t5 =>
 obind (ldCell h t5) fun v6 =>
 obind (avInt .i64 v6) fun t6 =>
 obind (nilC t0) fun t8 =>
 obind (fldP 0 t8) fun t9 =>
 obind (ldCell h t9) fun v10 =>
 obind (avStr v10) fun t10 =>
 lett ((t6 : Int) == (lenS t10)) fun (t12 : Bool) =>
 some (.ret (.bool t12), h)
set_option maxHeartbeats 4000000 in
set_option maxRecDepth 20000 in
theorem pattern_reader_ended_ok {call : CallF} (hc : SaysAll Try.prog call) {n : Nat} {t0 : AV} {h : AHeap} {rR : ARes} {hR : AHeap} (hF : pattern_reader_ended call n t0 h = some (rR, hR)) : Says Try.prog 59 [t0] h rR hR := by
 unfold pattern_reader_ended at hF
 refine says_of (fn := Try.f59) Try.func59 (c := codeOf Try.f59) (by kernel_rfl) (by kernel_rfl) (fun w0 m0 => ?_)
 refine W.weaken (l' := [(0, t0)]) (Fr.c Fr.n) ?_
 refine W.s (fun K1 n1 e1 q1 p1 => ?_)
 refine W.r ?_
 refine WL.a (some 2) (.bool false) h ?_
 refine WL.n ?_
 refine Go.weaken (l' := [(0, t0)]) (Fr.c Fr.n) ?_
 refine n1 ?_
 refine W.s (fun K2 n2 e2 q2 p2 => ?_)
 refine W.draw (by kernel_rfl) (hc.ok w0) (plan := [0, 1, 2, 3, 4, 5, 6, 7, 8, 9, 10]) (by kernel_rfl) (by kernel_rfl) (by kernel_rfl) ?_
 refine WD.a 0 (some 3) t0 h ?_
 replace hF := obind_some hF; obtain ⟨t4, e3, hF⟩ := hF
 refine WD.b 0 (some 4) t4 h (nil_chk (h := h) e3) ?_
 replace hF := obind_some hF; obtain ⟨t5, e4, hF⟩ := hF
 refine WD.b 0 (some 5) t5 h (field_ptr (P := Try.prog) (h := h) (s := 61) (f := 1) (by kernel_rfl) e4) ?_
 replace hF := obind_some hF; obtain ⟨v6, e5, hF⟩ := hF
 replace hF := obind_some hF; obtain ⟨t6, c6, hF⟩ := hF
 have c6 := avInt_some c6
 subst c6
 refine WD.b 1 (some 6) (.int .i64 t6) h (load_cell (P := Try.prog) (h := h) (t := 3) (by kernel_rfl) e5) ?_
 refine WD.a 0 (some 7) t0 h ?_
 replace hF := obind_some hF; obtain ⟨t8, e7, hF⟩ := hF
 refine WD.b 0 (some 8) t8 h (nil_chk (h := h) e7) ?_
 replace hF := obind_some hF; obtain ⟨t9, e8, hF⟩ := hF
 refine WD.b 0 (some 9) t9 h (field_ptr (P := Try.prog) (h := h) (s := 61) (f := 0) (by kernel_rfl) e8) ?_
 replace hF := obind_some hF; obtain ⟨v10, e9, hF⟩ := hF
 replace hF := obind_some hF; obtain ⟨t10, c10, hF⟩ := hF
 have c10 := avStr_some c10
 subst c10
 refine WD.b 1 (some 10) (strA t10) h (load_cell (P := Try.prog) (h := h) (t := 9) (by kernel_rfl) e9) ?_
 refine WD.a 0 (some 11) (.int .i64 (lenS t10)) h ?_
 replace hF := lett_some hF; obtain ⟨t12, e11, hF⟩ := hF
 refine WD.val (d := (some 12)) (v := .bool t12) (h' := h) (by kernel_rfl) (by kernel_rfl) (val_of AV.bool e11 (by kernel_rfl)) (k := 0) (by kernel_rfl) (fun e => absurd e (by decide)) (by decide) ?_
 refine WD.a 0 (some 2) (.bool t12) h ?_
 refine WD.nil ?_
 refine Go.weaken (l' := [(2, .bool t12)]) (Fr.c Fr.n) ?_
 refine n2 ?_
 refine W.ret (by kernel_rfl) ?_
 obtain ⟨hF, hF2⟩ := ret_inj hF; subst hF; subst hF2
 exact leave_of (rs := [.tmp 2]) (vs := [.bool t12]) (by kernel_rfl) (res_tmp (by kernel_rfl) res_nil) (by kernel_rfl)
noncomputable def pattern_reader_ended_fn (call : CallF) (n : Nat) : FnT := fun args h => match args with
 | [x0] => pattern_reader_ended call n x0 h
 | _ => none
set_option maxRecDepth 100000 in
theorem pattern_reader_ended_fn_eq (call : CallF) (n : Nat) (t0 : AV) (h : AHeap) : pattern_reader_ended_fn call n [t0] h = pattern_reader_ended call n t0 h :=
 rfl
theorem pattern_reader_ended_holds {call : CallF} (hc : SaysAll Try.prog call) (n : Nat) : Holds Try.prog 59 (pattern_reader_ended_fn call n) := by
 intro args h r h2 e
 unfold pattern_reader_ended_fn at e
 split at e
 ·exact pattern_reader_ended_ok hc e
 ·cases e

noncomputable def pattern_reader_form (call : CallF) (_ : Nat) (t0 : AV) (h : AHeap) : R :=
 callK (call 55 [t0] h) fun r5 h_3 =>
 obind (avInt .u8 r5) fun t5 =>
 lett ((t5 : Int) != 92) fun (t7 : Bool) =>
 ifB t7
 (
  callN (call 56 [.int .u8 t5] h_3) fun r9 h_11 =>
  obind (avBool r9) fun t9 =>
  lett (!t9) fun (t10 : Bool) =>
  lett (fun  (h_16 : AHeap) =>
   some (.ret (.int .u8 t5), h_16)) fun k15 =>
  ifB t10
  (
   callK (call 57 [t0] h_11) fun _ h_18 =>
   k15 h_18)
  (
   k15 h_11))
 (
  callK (call 55 [t0] h_3) fun r15 h_23 =>
  obind (avInt .u8 r15) fun t15 =>
  lett ((t15 : Int) == 34) fun (t18 : Bool) =>
  lett (fun (t17 : Bool) (h_32 : AHeap) =>
   ifB t17
   (
    some (.ret (.int .u8 t15), h_32))
   (
    lett ((t15 : Int) == 110) fun (t22 : Bool) =>
    ifB t22
    (
     some (.ret (.int .u8 10), h_32))
    (
     lett ((t15 : Int) == 114) fun (t24 : Bool) =>
     ifB t24
     (
      some (.ret (.int .u8 13), h_32))
     (
      lett ((t15 : Int) == 116) fun (t26 : Bool) =>
      ifB t26
      (
       some (.ret (.int .u8 9), h_32))
      (
       lett ((t15 : Int) == 120) fun (t28 : Bool) =>
       ifB t28
       (
        callK (call 58 [t0] h_32) fun r30 h_46 =>
        obind (avInt .u8 r30) fun t30 =>
        some (.ret (.int .u8 t30), h_46))
       (
        callK (call 57 [t0] h_32) fun _ h_51 =>
        some (.ret (.int .u8 0), h_51))))))) fun k31 =>
  ifB t18
  (
   k31 true h_23)
  (
   lett ((t15 : Int) == 92) fun (t19 : Bool) =>
   k31 t19 h_23))
set_option maxHeartbeats 4000000 in
set_option maxRecDepth 20000 in
theorem pattern_reader_form_ok {call : CallF} (hc : SaysAll Try.prog call) {n : Nat} {t0 : AV} {h : AHeap} {rR : ARes} {hR : AHeap} (hF : pattern_reader_form call n t0 h = some (rR, hR)) : Says Try.prog 51 [t0] h rR hR := by
 unfold pattern_reader_form at hF
 refine says_of (fn := Try.f51) Try.func51 (c := codeOf Try.f51) (by kernel_rfl) (by kernel_rfl) (fun w0 m0 => ?_)
 refine W.weaken (l' := [(0, t0)]) (Fr.c Fr.n) ?_
 refine W.s (fun K1 n1 e1 q1 p1 => ?_)
 refine W.r ?_
 refine WL.a (some 2) (.int .u8 0) h ?_
 refine WL.n ?_
 refine Go.weaken (l' := [(0, t0)]) (Fr.c Fr.n) ?_
 refine n1 ?_
 refine W.s (fun K2 n2 e2 q2 p2 => ?_)
 refine W.r ?_
 refine WL.a (some 4) t0 h ?_
 replace hF := callK_some hF; rcases hF with ⟨r5, h_3, e4, hF⟩ | ⟨r5, h_3, e4, q57⟩
 ·replace hF := obind_some hF; obtain ⟨t5, c5, hF⟩ := hF
  have c5 := avInt_some c5
  subst c5
  refine WL.c (hc.ok w0) (some 5) e4 ?_
  refine WL.a (some 3) (.int .u8 t5) h_3 ?_
  refine WL.n ?_
  refine Go.weaken (l' := [(0, t0), (3, .int .u8 t5)]) (Fr.c (Fr.c Fr.n)) ?_
  refine n2 ?_
  refine W.s (fun K6 n6 e6 q6 p6 => ?_)
  refine W.s (fun K7 n7 e7 q7 p7 => ?_)
  refine W.r ?_
  refine WL.a (some 6) (.int .u8 t5) h_3 ?_
  replace hF := lett_some hF; obtain ⟨t7, e8, hF⟩ := hF
  refine WL.val (d := (some 7)) (v := .bool t7) (h' := h_3) (by kernel_rfl) (by kernel_rfl) (val_of AV.bool e8 (by kernel_rfl)) ?_
  refine WL.n ?_
  refine Go.weaken (l' := [(0, t0), (3, .int .u8 t5), (7, .bool t7)]) (Fr.c (Fr.c (Fr.c Fr.n))) ?_
  refine n7 ?_
  cases t7 with
  | true =>
   replace hF := ifB_t hF
   refine W.t ?_
   refine W.s (fun K9 n9 e9 q9 p9 => ?_)
   refine W.s (fun K10 n10 e10 q10 p10 => ?_)
   refine W.r ?_
   refine WL.a (some 8) (.int .u8 t5) h_3 ?_
   replace hF := callN_some hF; obtain ⟨r9, h_11, e12, hF⟩ := hF
   replace hF := obind_some hF; obtain ⟨t9, c13, hF⟩ := hF
   have c13 := avBool_some c13
   subst c13
   refine WL.c (hc.ok w0) (some 9) e12 ?_
   replace hF := lett_some hF; obtain ⟨t10, e14, hF⟩ := hF
   refine WL.val (d := (some 10)) (v := .bool t10) (h' := h_11) (by kernel_rfl) (by kernel_rfl) (val_of AV.bool e14 (by kernel_rfl)) ?_
   refine WL.n ?_
   refine Go.weaken (l' := [(0, t0), (3, .int .u8 t5), (10, .bool t10)]) (Fr.c (Fr.c (Fr.c Fr.n))) ?_
   refine n10 ?_
   replace hF := lett_some hF; obtain ⟨k15, e15, hF⟩ := hF
   have J15 : ∀  (h_16 : AHeap), k15 h_16 = some (rR, hR) → Go w0 m0 (Func.ntmps Try.f51) (K9 .normal) [(3, .int .u8 t5)] [] h_16 := by
    intro  h_16 hF
    rw [e15] at hF
    refine n9 ?_
    refine W.s (fun K17 n17 e17 q17 p17 => ?_)
    refine W.r ?_
    refine WL.a (some 13) (.int .u8 t5) h_16 ?_
    refine WL.a (some 2) (.int .u8 t5) h_16 ?_
    refine WL.n ?_
    refine Go.weaken (l' := [(2, .int .u8 t5)]) (Fr.c Fr.n) ?_
    refine n17 ?_
    refine W.ret (by kernel_rfl) ?_
    refine q6 ?_
    obtain ⟨hF, hF2⟩ := ret_inj hF; subst hF; subst hF2
    exact leave_of (rs := [.tmp 2]) (vs := [.int .u8 t5]) (by kernel_rfl) (res_tmp (by kernel_rfl) res_nil) (by kernel_rfl)
   cases t10 with
   | true =>
    replace hF := ifB_t hF
    refine W.t ?_
    refine W.r ?_
    refine WL.a (some 11) t0 h_11 ?_
    replace hF := callK_some hF; rcases hF with ⟨r12, h_18, e19, hF⟩ | ⟨r12, h_18, e19, q20⟩
    ·refine WL.c (hc.ok w0) (some 12) e19 ?_
     refine WL.n ?_
     refine Go.weaken (l' := [(3, .int .u8 t5)]) (Fr.c Fr.n) ?_
     exact Go.weaken (Fr.c Fr.n) (J15 _ hF)
    ·obtain ⟨zq, zr⟩ := pan_inj q20; subst zq; subst zr
     exact WL.callPanic (hc.ok w0) (d := (some 12)) (by kernel_rfl) (by kernel_rfl) (by kernel_rfl) e19 (p9 (p6 Pan.fin))
   | false =>
    replace hF := ifB_f hF
    refine W.f ?_
    refine W.skip (by kernel_rfl) ?_
    exact Go.weaken (Fr.c Fr.n) (J15 _ hF)
  | false =>
   replace hF := ifB_f hF
   refine W.f ?_
   refine W.skip (by kernel_rfl) ?_
   refine n6 ?_
   refine W.s (fun K21 n21 e21 q21 p21 => ?_)
   refine W.s (fun K22 n22 e22 q22 p22 => ?_)
   refine W.r ?_
   refine WL.a (some 14) t0 h_3 ?_
   replace hF := callK_some hF; rcases hF with ⟨r15, h_23, e24, hF⟩ | ⟨r15, h_23, e24, q56⟩
   ·replace hF := obind_some hF; obtain ⟨t15, c25, hF⟩ := hF
    have c25 := avInt_some c25
    subst c25
    refine WL.c (hc.ok w0) (some 15) e24 ?_
    refine WL.a (some 3) (.int .u8 t15) h_23 ?_
    refine WL.n ?_
    refine Go.weaken (l' := [(0, t0), (3, .int .u8 t15)]) (Fr.c (Fr.c Fr.n)) ?_
    refine n22 ?_
    refine W.s (fun K26 n26 e26 q26 p26 => ?_)
    refine W.r ?_
    refine WL.a (some 16) (.int .u8 t15) h_23 ?_
    refine WL.n ?_
    refine Go.weaken (l' := [(0, t0), (3, .int .u8 t15), (16, .int .u8 t15)]) (Fr.c (Fr.c (Fr.c Fr.n))) ?_
    refine n26 ?_
    refine W.blockK (by kernel_rfl) (fun K27 n27 s27 o27 q27 p27 => ?_)
    refine W.s (fun K28 n28 e28 q28 p28 => ?_)
    refine W.s (fun K29 n29 e29 q29 p29 => ?_)
    refine W.r ?_
    replace hF := lett_some hF; obtain ⟨t18, e30, hF⟩ := hF
    refine WL.val (d := (some 18)) (v := .bool t18) (h' := h_23) (by kernel_rfl) (by kernel_rfl) (val_of AV.bool e30 (by kernel_rfl)) ?_
    refine WL.a (some 17) (.bool t18) h_23 ?_
    refine WL.n ?_
    refine Go.weaken (l' := [(0, t0), (3, .int .u8 t15), (16, .int .u8 t15), (17, .bool t18)]) (Fr.c (Fr.c (Fr.c (Fr.c Fr.n)))) ?_
    refine n29 ?_
    replace hF := lett_some hF; obtain ⟨k31, e31, hF⟩ := hF
    have J31 : ∀ (t17 : Bool) (h_32 : AHeap), k31 t17 h_32 = some (rR, hR) → Go w0 m0 (Func.ntmps Try.f51) (K28 .normal) [(0, t0), (3, .int .u8 t15), (16, .int .u8 t15), (17, .bool t17)] [] h_32 := by
     intro t17 h_32 hF
     rw [e31] at hF
     refine n28 ?_
     cases t17 with
     | true =>
      replace hF := ifB_t hF
      refine W.t ?_
      refine W.s (fun K33 n33 e33 q33 p33 => ?_)
      refine W.r ?_
      refine WL.a (some 20) (.int .u8 t15) h_32 ?_
      refine WL.a (some 2) (.int .u8 t15) h_32 ?_
      refine WL.n ?_
      refine Go.weaken (l' := [(2, .int .u8 t15)]) (Fr.c Fr.n) ?_
      refine n33 ?_
      refine W.ret (by kernel_rfl) ?_
      refine q27 ?_
      refine q21 ?_
      obtain ⟨hF, hF2⟩ := ret_inj hF; subst hF; subst hF2
      exact leave_of (rs := [.tmp 2]) (vs := [.int .u8 t15]) (by kernel_rfl) (res_tmp (by kernel_rfl) res_nil) (by kernel_rfl)
     | false =>
      replace hF := ifB_f hF
      refine W.f ?_
      refine W.s (fun K34 n34 e34 q34 p34 => ?_)
      refine W.r ?_
      replace hF := lett_some hF; obtain ⟨t22, e35, hF⟩ := hF
      refine WL.val (d := (some 22)) (v := .bool t22) (h' := h_32) (by kernel_rfl) (by kernel_rfl) (val_of AV.bool e35 (by kernel_rfl)) ?_
      refine WL.a (some 21) (.bool t22) h_32 ?_
      refine WL.n ?_
      refine Go.weaken (l' := [(0, t0), (16, .int .u8 t15), (21, .bool t22)]) (Fr.c (Fr.c (Fr.c Fr.n))) ?_
      refine n34 ?_
      cases t22 with
      | true =>
       replace hF := ifB_t hF
       refine W.t ?_
       refine W.s (fun K36 n36 e36 q36 p36 => ?_)
       refine W.r ?_
       refine WL.a (some 2) (.int .u8 10) h_32 ?_
       refine WL.n ?_
       refine Go.weaken (l' := [(2, .int .u8 10)]) (Fr.c Fr.n) ?_
       refine n36 ?_
       refine W.ret (by kernel_rfl) ?_
       refine q27 ?_
       refine q21 ?_
       obtain ⟨hF, hF2⟩ := ret_inj hF; subst hF; subst hF2
       exact leave_of (rs := [.tmp 2]) (vs := [.int .u8 10]) (by kernel_rfl) (res_tmp (by kernel_rfl) res_nil) (by kernel_rfl)
      | false =>
       replace hF := ifB_f hF
       refine W.f ?_
       refine W.s (fun K37 n37 e37 q37 p37 => ?_)
       refine W.r ?_
       replace hF := lett_some hF; obtain ⟨t24, e38, hF⟩ := hF
       refine WL.val (d := (some 24)) (v := .bool t24) (h' := h_32) (by kernel_rfl) (by kernel_rfl) (val_of AV.bool e38 (by kernel_rfl)) ?_
       refine WL.a (some 23) (.bool t24) h_32 ?_
       refine WL.n ?_
       refine Go.weaken (l' := [(0, t0), (16, .int .u8 t15), (23, .bool t24)]) (Fr.c (Fr.c (Fr.c Fr.n))) ?_
       refine n37 ?_
       cases t24 with
       | true =>
        replace hF := ifB_t hF
        refine W.t ?_
        refine W.s (fun K39 n39 e39 q39 p39 => ?_)
        refine W.r ?_
        refine WL.a (some 2) (.int .u8 13) h_32 ?_
        refine WL.n ?_
        refine Go.weaken (l' := [(2, .int .u8 13)]) (Fr.c Fr.n) ?_
        refine n39 ?_
        refine W.ret (by kernel_rfl) ?_
        refine q27 ?_
        refine q21 ?_
        obtain ⟨hF, hF2⟩ := ret_inj hF; subst hF; subst hF2
        exact leave_of (rs := [.tmp 2]) (vs := [.int .u8 13]) (by kernel_rfl) (res_tmp (by kernel_rfl) res_nil) (by kernel_rfl)
       | false =>
        replace hF := ifB_f hF
        refine W.f ?_
        refine W.s (fun K40 n40 e40 q40 p40 => ?_)
        refine W.r ?_
        replace hF := lett_some hF; obtain ⟨t26, e41, hF⟩ := hF
        refine WL.val (d := (some 26)) (v := .bool t26) (h' := h_32) (by kernel_rfl) (by kernel_rfl) (val_of AV.bool e41 (by kernel_rfl)) ?_
        refine WL.a (some 25) (.bool t26) h_32 ?_
        refine WL.n ?_
        refine Go.weaken (l' := [(0, t0), (16, .int .u8 t15), (25, .bool t26)]) (Fr.c (Fr.c (Fr.c Fr.n))) ?_
        refine n40 ?_
        cases t26 with
        | true =>
         replace hF := ifB_t hF
         refine W.t ?_
         refine W.s (fun K42 n42 e42 q42 p42 => ?_)
         refine W.r ?_
         refine WL.a (some 2) (.int .u8 9) h_32 ?_
         refine WL.n ?_
         refine Go.weaken (l' := [(2, .int .u8 9)]) (Fr.c Fr.n) ?_
         refine n42 ?_
         refine W.ret (by kernel_rfl) ?_
         refine q27 ?_
         refine q21 ?_
         obtain ⟨hF, hF2⟩ := ret_inj hF; subst hF; subst hF2
         exact leave_of (rs := [.tmp 2]) (vs := [.int .u8 9]) (by kernel_rfl) (res_tmp (by kernel_rfl) res_nil) (by kernel_rfl)
        | false =>
         replace hF := ifB_f hF
         refine W.f ?_
         refine W.s (fun K43 n43 e43 q43 p43 => ?_)
         refine W.r ?_
         replace hF := lett_some hF; obtain ⟨t28, e44, hF⟩ := hF
         refine WL.val (d := (some 28)) (v := .bool t28) (h' := h_32) (by kernel_rfl) (by kernel_rfl) (val_of AV.bool e44 (by kernel_rfl)) ?_
         refine WL.a (some 27) (.bool t28) h_32 ?_
         refine WL.n ?_
         refine Go.weaken (l' := [(0, t0), (27, .bool t28)]) (Fr.c (Fr.c Fr.n)) ?_
         refine n43 ?_
         cases t28 with
         | true =>
          replace hF := ifB_t hF
          refine W.t ?_
          refine W.s (fun K45 n45 e45 q45 p45 => ?_)
          refine W.r ?_
          refine WL.a (some 29) t0 h_32 ?_
          replace hF := callK_some hF; rcases hF with ⟨r30, h_46, e47, hF⟩ | ⟨r30, h_46, e47, q49⟩
          ·replace hF := obind_some hF; obtain ⟨t30, c48, hF⟩ := hF
           have c48 := avInt_some c48
           subst c48
           refine WL.c (hc.ok w0) (some 30) e47 ?_
           refine WL.a (some 2) (.int .u8 t30) h_46 ?_
           refine WL.n ?_
           refine Go.weaken (l' := [(2, .int .u8 t30)]) (Fr.c Fr.n) ?_
           refine n45 ?_
           refine W.ret (by kernel_rfl) ?_
           refine q27 ?_
           refine q21 ?_
           obtain ⟨hF, hF2⟩ := ret_inj hF; subst hF; subst hF2
           exact leave_of (rs := [.tmp 2]) (vs := [.int .u8 t30]) (by kernel_rfl) (res_tmp (by kernel_rfl) res_nil) (by kernel_rfl)
          ·obtain ⟨zq, zr⟩ := pan_inj q49; subst zq; subst zr
           exact WL.callPanic (hc.ok w0) (d := (some 30)) (by kernel_rfl) (by kernel_rfl) (by kernel_rfl) e47 (p45 (p27 (p21 Pan.fin)))
         | false =>
          replace hF := ifB_f hF
          refine W.f ?_
          refine W.skip (by kernel_rfl) ?_
          refine n27 ?_
          refine n21 ?_
          refine W.s (fun K50 n50 e50 q50 p50 => ?_)
          refine W.r ?_
          refine WL.a (some 31) t0 h_32 ?_
          replace hF := callK_some hF; rcases hF with ⟨r32, h_51, e52, hF⟩ | ⟨r32, h_51, e52, q54⟩
          ·refine WL.c (hc.ok w0) (some 32) e52 ?_
           refine WL.n ?_
           refine Go.weaken (l' := []) Fr.n ?_
           refine n50 ?_
           refine W.s (fun K53 n53 e53 q53 p53 => ?_)
           refine W.r ?_
           refine WL.a (some 2) (.int .u8 0) h_51 ?_
           refine WL.n ?_
           refine Go.weaken (l' := [(2, .int .u8 0)]) (Fr.c Fr.n) ?_
           refine n53 ?_
           refine W.ret (by kernel_rfl) ?_
           obtain ⟨hF, hF2⟩ := ret_inj hF; subst hF; subst hF2
           exact leave_of (rs := [.tmp 2]) (vs := [.int .u8 0]) (by kernel_rfl) (res_tmp (by kernel_rfl) res_nil) (by kernel_rfl)
          ·obtain ⟨zq, zr⟩ := pan_inj q54; subst zq; subst zr
           exact WL.callPanic (hc.ok w0) (d := (some 32)) (by kernel_rfl) (by kernel_rfl) (by kernel_rfl) e52 (p50 Pan.fin)
    cases t18 with
    | true =>
     replace hF := ifB_t hF
     refine W.t ?_
     refine W.skip (by kernel_rfl) ?_
     exact Go.weaken (Fr.c (Fr.c (Fr.c (Fr.c Fr.n)))) (J31 _ _ hF)
    | false =>
     replace hF := ifB_f hF
     refine W.f ?_
     refine W.r ?_
     replace hF := lett_some hF; obtain ⟨t19, e55, hF⟩ := hF
     refine WL.val (d := (some 19)) (v := .bool t19) (h' := h_23) (by kernel_rfl) (by kernel_rfl) (val_of AV.bool e55 (by kernel_rfl)) ?_
     refine WL.a (some 17) (.bool t19) h_23 ?_
     refine WL.n ?_
     refine Go.weaken (l' := [(0, t0), (3, .int .u8 t15), (16, .int .u8 t15), (17, .bool t19)]) (Fr.c (Fr.c (Fr.c (Fr.c Fr.n)))) ?_
     exact Go.weaken (Fr.c (Fr.c (Fr.c (Fr.c Fr.n)))) (J31 _ _ hF)
   ·obtain ⟨zq, zr⟩ := pan_inj q56; subst zq; subst zr
    exact WL.callPanic (hc.ok w0) (d := (some 15)) (by kernel_rfl) (by kernel_rfl) (by kernel_rfl) e24 (p22 (p21 Pan.fin))
 ·obtain ⟨zq, zr⟩ := pan_inj q57; subst zq; subst zr
  exact WL.callPanic (hc.ok w0) (d := (some 5)) (by kernel_rfl) (by kernel_rfl) (by kernel_rfl) e4 (p2 Pan.fin)
noncomputable def pattern_reader_form_fn (call : CallF) (n : Nat) : FnT := fun args h => match args with
 | [x0] => pattern_reader_form call n x0 h
 | _ => none
set_option maxRecDepth 100000 in
theorem pattern_reader_form_fn_eq (call : CallF) (n : Nat) (t0 : AV) (h : AHeap) : pattern_reader_form_fn call n [t0] h = pattern_reader_form call n t0 h :=
 rfl
theorem pattern_reader_form_holds {call : CallF} (hc : SaysAll Try.prog call) (n : Nat) : Holds Try.prog 51 (pattern_reader_form_fn call n) := by
 intro args h r h2 e
 unfold pattern_reader_form_fn at e
 split at e
 ·exact pattern_reader_form_ok hc e
 ·cases e

noncomputable def pattern_reader_next (call : CallF) (_ : Nat) (t0 : AV) (h : AHeap) : R :=
 callN (call 59 [t0] h) fun r4 h_4 =>
 obind (avBool r4) fun t4 =>
 lett (fun  (h_8 : AHeap) =>
  obind (nilC t0) fun t11 =>
  obind (fldP 1 t11) fun t12 =>
  obind (ldCell h_8 t12) fun v13 =>
  obind (avInt .i64 v13) fun t13 =>
  lett (IntKind.i64.wrap (t13 + 1)) fun (t14 : Int) =>
  obind (nilC t0) fun t15 =>
  obind (fldP 1 t15) fun t16 =>
  obind (stRow h_8 1 [.int .i64 t14] t16) fun h_17 =>
  obind (nilC t0) fun t18 =>
  obind (fldP 0 t18) fun t19 =>
  obind (ldCell h_17 t19) fun v20 =>
  obind (avStr v20) fun t20 =>
  obind (nilC t0) fun t22 =>
  obind (fldP 1 t22) fun t23 =>
  obind (ldCell h_17 t23) fun v24 =>
  obind (avInt .i64 v24) fun t24 =>
  lett (IntKind.i64.wrap (t24 - 1)) fun (t25 : Int) =>
  obind (idxS t20 t25) fun t26 =>
  some (.ret (.int .u8 t26), h_17)) fun k7 =>
 ifB t4
 (
  obind (nilC t0) fun t6 =>
  obind (fldP 1 t6) fun t7 =>
  obind (ldCell h_4 t7) fun v8 =>
  obind (avInt .i64 v8) fun t8 =>
  callK (call 49 [.int .i64 6, .int .i64 t8] h_4) fun _ h_34 =>
  k7 h_34)
 (
  k7 h_4)
set_option maxHeartbeats 4000000 in
set_option maxRecDepth 20000 in
theorem pattern_reader_next_ok {call : CallF} (hc : SaysAll Try.prog call) {n : Nat} {t0 : AV} {h : AHeap} {rR : ARes} {hR : AHeap} (hF : pattern_reader_next call n t0 h = some (rR, hR)) : Says Try.prog 55 [t0] h rR hR := by
 unfold pattern_reader_next at hF
 refine says_of (fn := Try.f55) Try.func55 (c := codeOf Try.f55) (by kernel_rfl) (by kernel_rfl) (fun w0 m0 => ?_)
 refine W.weaken (l' := [(0, t0)]) (Fr.c Fr.n) ?_
 refine W.s (fun K1 n1 e1 q1 p1 => ?_)
 refine W.r ?_
 refine WL.a (some 2) (.int .u8 0) h ?_
 refine WL.n ?_
 refine Go.weaken (l' := [(0, t0)]) (Fr.c Fr.n) ?_
 refine n1 ?_
 refine W.s (fun K2 n2 e2 q2 p2 => ?_)
 refine W.s (fun K3 n3 e3 q3 p3 => ?_)
 refine W.r ?_
 refine WL.a (some 3) t0 h ?_
 replace hF := callN_some hF; obtain ⟨r4, h_4, e5, hF⟩ := hF
 replace hF := obind_some hF; obtain ⟨t4, c6, hF⟩ := hF
 have c6 := avBool_some c6
 subst c6
 refine WL.c (hc.ok w0) (some 4) e5 ?_
 refine WL.n ?_
 refine Go.weaken (l' := [(0, t0), (4, .bool t4)]) (Fr.c (Fr.c Fr.n)) ?_
 refine n3 ?_
 replace hF := lett_some hF; obtain ⟨k7, e7, hF⟩ := hF
 have J7 : ∀  (h_8 : AHeap), k7 h_8 = some (rR, hR) → Go w0 m0 (Func.ntmps Try.f55) (K2 .normal) [(0, t0)] [] h_8 := by
  intro  h_8 hF
  rw [e7] at hF
  refine n2 ?_
  refine W.s (fun K9 n9 e9 q9 p9 => ?_)
  refine W.r ?_
  refine WL.a (some 10) t0 h_8 ?_
  replace hF := obind_some hF; obtain ⟨t11, e10, hF⟩ := hF
  refine WL.b (some 11) t11 h_8 (nil_chk (h := h_8) e10) ?_
  replace hF := obind_some hF; obtain ⟨t12, e11, hF⟩ := hF
  refine WL.b (some 12) t12 h_8 (field_ptr (P := Try.prog) (h := h_8) (s := 61) (f := 1) (by kernel_rfl) e11) ?_
  replace hF := obind_some hF; obtain ⟨v13, e12, hF⟩ := hF
  replace hF := obind_some hF; obtain ⟨t13, c13, hF⟩ := hF
  have c13 := avInt_some c13
  subst c13
  refine WL.b (some 13) (.int .i64 t13) h_8 (load_cell (P := Try.prog) (h := h_8) (t := 3) (by kernel_rfl) e12) ?_
  replace hF := lett_some hF; obtain ⟨t14, e14, hF⟩ := hF
  refine WL.val (d := (some 14)) (v := .int .i64 t14) (h' := h_8) (by kernel_rfl) (by kernel_rfl) (val_of (AV.int .i64) e14 (by kernel_rfl)) ?_
  replace hF := obind_some hF; obtain ⟨t15, e15, hF⟩ := hF
  refine WL.b (some 15) t15 h_8 (nil_chk (h := h_8) e15) ?_
  replace hF := obind_some hF; obtain ⟨t16, e16, hF⟩ := hF
  refine WL.b (some 16) t16 h_8 (field_ptr (P := Try.prog) (h := h_8) (s := 61) (f := 1) (by kernel_rfl) e16) ?_
  replace hF := obind_some hF; obtain ⟨h_17, e18, hF⟩ := hF
  refine WL.e h_17 (store_row (P := Try.prog) (h := h_8) (t := 3) (v := (.int .i64 t14)) (by kernel_rfl) (by kernel_rfl) e18) ?_
  refine WL.n ?_
  refine Go.weaken (l' := [(0, t0)]) (Fr.c Fr.n) ?_
  refine n9 ?_
  refine W.s (fun K19 n19 e19 q19 p19 => ?_)
  refine W.draw (by kernel_rfl) (hc.ok w0) (plan := [0, 1, 2, 3, 4, 5, 6, 7, 8, 9, 10]) (by kernel_rfl) (by kernel_rfl) (by kernel_rfl) ?_
  refine WD.a 0 (some 17) t0 h_17 ?_
  replace hF := obind_some hF; obtain ⟨t18, e20, hF⟩ := hF
  refine WD.b 0 (some 18) t18 h_17 (nil_chk (h := h_17) e20) ?_
  replace hF := obind_some hF; obtain ⟨t19, e21, hF⟩ := hF
  refine WD.b 0 (some 19) t19 h_17 (field_ptr (P := Try.prog) (h := h_17) (s := 61) (f := 0) (by kernel_rfl) e21) ?_
  replace hF := obind_some hF; obtain ⟨v20, e22, hF⟩ := hF
  replace hF := obind_some hF; obtain ⟨t20, c23, hF⟩ := hF
  have c23 := avStr_some c23
  subst c23
  refine WD.b 1 (some 20) (strA t20) h_17 (load_cell (P := Try.prog) (h := h_17) (t := 9) (by kernel_rfl) e22) ?_
  refine WD.a 0 (some 21) t0 h_17 ?_
  replace hF := obind_some hF; obtain ⟨t22, e24, hF⟩ := hF
  refine WD.b 0 (some 22) t22 h_17 (nil_chk (h := h_17) e24) ?_
  replace hF := obind_some hF; obtain ⟨t23, e25, hF⟩ := hF
  refine WD.b 0 (some 23) t23 h_17 (field_ptr (P := Try.prog) (h := h_17) (s := 61) (f := 1) (by kernel_rfl) e25) ?_
  replace hF := obind_some hF; obtain ⟨v24, e26, hF⟩ := hF
  replace hF := obind_some hF; obtain ⟨t24, c27, hF⟩ := hF
  have c27 := avInt_some c27
  subst c27
  refine WD.b 1 (some 24) (.int .i64 t24) h_17 (load_cell (P := Try.prog) (h := h_17) (t := 3) (by kernel_rfl) e26) ?_
  replace hF := lett_some hF; obtain ⟨t25, e28, hF⟩ := hF
  refine WD.val (d := (some 25)) (v := .int .i64 t25) (h' := h_17) (by kernel_rfl) (by kernel_rfl) (val_of (AV.int .i64) e28 (by kernel_rfl)) (k := 0) (by kernel_rfl) (fun e => absurd e (by decide)) (by decide) ?_
  replace hF := obind_some hF; obtain ⟨t26, e29, hF⟩ := hF
  refine WD.b 0 (some 26) (.int .u8 t26) h_17 (index_str (P := Try.prog) (h := h_17) (t := 9) (k := .i64) (by kernel_rfl) e29) ?_
  refine WD.a 0 (some 2) (.int .u8 t26) h_17 ?_
  refine WD.nil ?_
  refine Go.weaken (l' := [(2, .int .u8 t26)]) (Fr.c Fr.n) ?_
  refine n19 ?_
  refine W.ret (by kernel_rfl) ?_
  obtain ⟨hF, hF2⟩ := ret_inj hF; subst hF; subst hF2
  exact leave_of (rs := [.tmp 2]) (vs := [.int .u8 t26]) (by kernel_rfl) (res_tmp (by kernel_rfl) res_nil) (by kernel_rfl)
 cases t4 with
 | true =>
  replace hF := ifB_t hF
  refine W.t ?_
  refine W.r ?_
  refine WL.a (some 5) t0 h_4 ?_
  replace hF := obind_some hF; obtain ⟨t6, e30, hF⟩ := hF
  refine WL.b (some 6) t6 h_4 (nil_chk (h := h_4) e30) ?_
  replace hF := obind_some hF; obtain ⟨t7, e31, hF⟩ := hF
  refine WL.b (some 7) t7 h_4 (field_ptr (P := Try.prog) (h := h_4) (s := 61) (f := 1) (by kernel_rfl) e31) ?_
  replace hF := obind_some hF; obtain ⟨v8, e32, hF⟩ := hF
  replace hF := obind_some hF; obtain ⟨t8, c33, hF⟩ := hF
  have c33 := avInt_some c33
  subst c33
  refine WL.b (some 8) (.int .i64 t8) h_4 (load_cell (P := Try.prog) (h := h_4) (t := 3) (by kernel_rfl) e32) ?_
  replace hF := callK_some hF; rcases hF with ⟨r9, h_34, e35, hF⟩ | ⟨r9, h_34, e35, q36⟩
  ·refine WL.c (hc.ok w0) (some 9) e35 ?_
   refine WL.n ?_
   refine Go.weaken (l' := [(0, t0)]) (Fr.c Fr.n) ?_
   exact Go.weaken (Fr.c Fr.n) (J7 _ hF)
  ·obtain ⟨zq, zr⟩ := pan_inj q36; subst zq; subst zr
   exact WL.callPanic (hc.ok w0) (d := (some 9)) (by kernel_rfl) (by kernel_rfl) (by kernel_rfl) e35 (p2 Pan.fin)
 | false =>
  replace hF := ifB_f hF
  refine W.f ?_
  refine W.skip (by kernel_rfl) ?_
  exact Go.weaken (Fr.c Fr.n) (J7 _ hF)
noncomputable def pattern_reader_next_fn (call : CallF) (n : Nat) : FnT := fun args h => match args with
 | [x0] => pattern_reader_next call n x0 h
 | _ => none
set_option maxRecDepth 100000 in
theorem pattern_reader_next_fn_eq (call : CallF) (n : Nat) (t0 : AV) (h : AHeap) : pattern_reader_next_fn call n [t0] h = pattern_reader_next call n t0 h :=
 rfl
theorem pattern_reader_next_holds {call : CallF} (hc : SaysAll Try.prog call) (n : Nat) : Holds Try.prog 55 (pattern_reader_next_fn call n) := by
 intro args h r h2 e
 unfold pattern_reader_next_fn at e
 split at e
 ·exact pattern_reader_next_ok hc e
 ·cases e

noncomputable def pattern_reader_refuseLast (call : CallF) (_ : Nat) (t0 : AV) (h : AHeap) : R :=
 obind (nilC t0) fun t3 =>
 obind (fldP 1 t3) fun t4 =>
 obind (ldCell h t4) fun v5 =>
 obind (avInt .i64 v5) fun t5 =>
 lett (IntKind.i64.wrap (t5 - 1)) fun (t6 : Int) =>
 callK (call 49 [.int .i64 6, .int .i64 t6] h) fun _ h_6 =>
 some (.ret (.tup []), h_6)
set_option maxHeartbeats 4000000 in
set_option maxRecDepth 20000 in
theorem pattern_reader_refuseLast_ok {call : CallF} (hc : SaysAll Try.prog call) {n : Nat} {t0 : AV} {h : AHeap} {rR : ARes} {hR : AHeap} (hF : pattern_reader_refuseLast call n t0 h = some (rR, hR)) : Says Try.prog 57 [t0] h rR hR := by
 unfold pattern_reader_refuseLast at hF
 refine says_of (fn := Try.f57) Try.func57 (c := codeOf Try.f57) (by kernel_rfl) (by kernel_rfl) (fun w0 m0 => ?_)
 refine W.weaken (l' := [(0, t0)]) (Fr.c Fr.n) ?_
 refine W.r ?_
 refine WL.a (some 2) t0 h ?_
 replace hF := obind_some hF; obtain ⟨t3, e1, hF⟩ := hF
 refine WL.b (some 3) t3 h (nil_chk (h := h) e1) ?_
 replace hF := obind_some hF; obtain ⟨t4, e2, hF⟩ := hF
 refine WL.b (some 4) t4 h (field_ptr (P := Try.prog) (h := h) (s := 61) (f := 1) (by kernel_rfl) e2) ?_
 replace hF := obind_some hF; obtain ⟨v5, e3, hF⟩ := hF
 replace hF := obind_some hF; obtain ⟨t5, c4, hF⟩ := hF
 have c4 := avInt_some c4
 subst c4
 refine WL.b (some 5) (.int .i64 t5) h (load_cell (P := Try.prog) (h := h) (t := 3) (by kernel_rfl) e3) ?_
 replace hF := lett_some hF; obtain ⟨t6, e5, hF⟩ := hF
 refine WL.val (d := (some 6)) (v := .int .i64 t6) (h' := h) (by kernel_rfl) (by kernel_rfl) (val_of (AV.int .i64) e5 (by kernel_rfl)) ?_
 replace hF := callK_some hF; rcases hF with ⟨r7, h_6, e7, hF⟩ | ⟨r7, h_6, e7, q8⟩
 ·refine WL.c (hc.ok w0) (some 7) e7 ?_
  refine WL.n ?_
  refine Go.weaken (l' := []) Fr.n ?_
  obtain ⟨hF, hF2⟩ := ret_inj hF; subst hF; subst hF2
  exact leaveN_of (rs := []) (vs := []) (by kernel_rfl) res_nil (by kernel_rfl)
 ·obtain ⟨zq, zr⟩ := pan_inj q8; subst zq; subst zr
  exact WL.callPanic (hc.ok w0) (d := (some 7)) (by kernel_rfl) (by kernel_rfl) (by kernel_rfl) e7 Pan.fin
noncomputable def pattern_reader_refuseLast_fn (call : CallF) (n : Nat) : FnT := fun args h => match args with
 | [x0] => pattern_reader_refuseLast call n x0 h
 | _ => none
set_option maxRecDepth 100000 in
theorem pattern_reader_refuseLast_fn_eq (call : CallF) (n : Nat) (t0 : AV) (h : AHeap) : pattern_reader_refuseLast_fn call n [t0] h = pattern_reader_refuseLast call n t0 h :=
 rfl
theorem pattern_reader_refuseLast_holds {call : CallF} (hc : SaysAll Try.prog call) (n : Nat) : Holds Try.prog 57 (pattern_reader_refuseLast_fn call n) := by
 intro args h r h2 e
 unfold pattern_reader_refuseLast_fn at e
 split at e
 ·exact pattern_reader_refuseLast_ok hc e
 ·cases e

noncomputable def pattern_refuse (_ : CallF) (_ : Nat) (t0 : Int) (t1 : Int) (h : AHeap) : R :=
 obind (bldS Try.prog 65 [(0, .agg ([.int .i64 t0, .int .i64 t1] : List AV))]) fun t7 =>
 panK (AV.ifc 65 (.agg t7)) h
set_option maxHeartbeats 4000000 in
set_option maxRecDepth 20000 in
theorem pattern_refuse_ok {call : CallF} (_ : SaysAll Try.prog call) {n : Nat} {t0 : Int} {t1 : Int} {h : AHeap} {rR : ARes} {hR : AHeap} (hF : pattern_refuse call n t0 t1 h = some (rR, hR)) : Says Try.prog 49 [.int .i64 t0, .int .i64 t1] h rR hR := by
 unfold pattern_refuse at hF
 refine says_of (fn := Try.f49) Try.func49 (c := codeOf Try.f49) (by kernel_rfl) (by kernel_rfl) (fun w0 m0 => ?_)
 refine W.weaken (l' := [(0, .int .i64 t0), (1, .int .i64 t1)]) (Fr.c (Fr.c Fr.n)) ?_
 refine W.r ?_
 refine WL.a (some 4) (.int .i64 t0) h ?_
 refine WL.a (some 5) (.int .i64 t1) h ?_
 refine WL.a (some 6) (.agg ([.int .i64 t0, .int .i64 t1] : List AV)) h ?_
 replace hF := obind_some hF; obtain ⟨t7, e1, hF⟩ := hF
 refine WL.val (d := (some 7)) (v := .agg t7) (h' := h) (by kernel_rfl) (by kernel_rfl) (bld_ok (by kernel_rfl) e1) ?_
 refine WL.a (some 8) (AV.ifc 65 (.agg t7)) h ?_
 replace hF := panK_some hF; obtain ⟨a3t, a3v, e2, e22⟩ := hF
 cases e22
 exact WL.pan (d := none) (by kernel_rfl) (by kernel_rfl) (Eq.trans (by kernel_rfl) (congrArg (fun x => opPanic _ (some x)) e2)) Pan.fin
noncomputable def pattern_refuse_fn (call : CallF) (n : Nat) : FnT := fun args h => match args with
 | [x0, x1] => obind (avInt .i64 x0) fun t0 => obind (avInt .i64 x1) fun t1 => pattern_refuse call n t0 t1 h
 | _ => none
set_option maxRecDepth 100000 in
theorem pattern_refuse_fn_eq (call : CallF) (n : Nat) (t0 : Int) (t1 : Int) (h : AHeap) : pattern_refuse_fn call n [.int .i64 t0, .int .i64 t1] h = pattern_refuse call n t0 t1 h :=
 (Eq.trans (obind_eq (fun t0 => obind (avInt .i64 (.int .i64 t1)) fun t1 => pattern_refuse call n t0 t1 h) (avInt_int .i64 t0)) (Eq.trans (obind_eq (fun t1 => pattern_refuse call n t0 t1 h) (avInt_int .i64 t1)) rfl))
theorem pattern_refuse_holds {call : CallF} (hc : SaysAll Try.prog call) (n : Nat) : Holds Try.prog 49 (pattern_refuse_fn call n) := by
 intro args h r h2 e
 unfold pattern_refuse_fn at e
 split at e
 ·replace e := obind_some e; obtain ⟨t0, c0, e⟩ := e; have c0 := avInt_some c0; subst c0
  replace e := obind_some e; obtain ⟨t1, c1, e⟩ := e; have c1 := avInt_some c1; subst c1
  exact pattern_refuse_ok hc e
 ·cases e

noncomputable def pattern_reader_twoDigits (call : CallF) (_ : Nat) (t0 : AV) (h : AHeap) : R :=
 callK (call 61 [t0] h) fun r6 h_3 =>
 obind (avInt .u8 r6) fun t6 =>
 obind (shlI .u8 t6 4) fun t7 =>
 callN (call 62 [.int .u8 t7] h_3) fun r9 h_9 =>
 obind (avBool r9) fun t9 =>
 lett (!t9) fun (t10 : Bool) =>
 lett (fun  (h_14 : AHeap) =>
  callK (call 61 [t0] h_14) fun r15 h_16 =>
  obind (avInt .u8 r15) fun t15 =>
  lett (orI .u8 t7 t15) fun (t16 : Int) =>
  callN (call 63 [.int .u8 t16] h_16) fun r18 h_22 =>
  obind (avBool r18) fun t18 =>
  lett (!t18) fun (t19 : Bool) =>
  lett (fun  (h_27 : AHeap) =>
   some (.ret (.int .u8 t16), h_27)) fun k26 =>
  ifB t19
  (
   callK (call 57 [t0] h_22) fun _ h_29 =>
   k26 h_29)
  (
   k26 h_22)) fun k13 =>
 ifB t10
 (
  callK (call 57 [t0] h_9) fun _ h_33 =>
  k13 h_33)
 (
  k13 h_9)
set_option maxHeartbeats 4000000 in
set_option maxRecDepth 20000 in
theorem pattern_reader_twoDigits_ok {call : CallF} (hc : SaysAll Try.prog call) {n : Nat} {t0 : AV} {h : AHeap} {rR : ARes} {hR : AHeap} (hF : pattern_reader_twoDigits call n t0 h = some (rR, hR)) : Says Try.prog 58 [t0] h rR hR := by
 unfold pattern_reader_twoDigits at hF
 refine says_of (fn := Try.f58) Try.func58 (c := codeOf Try.f58) (by kernel_rfl) (by kernel_rfl) (fun w0 m0 => ?_)
 refine W.weaken (l' := [(0, t0)]) (Fr.c Fr.n) ?_
 refine W.s (fun K1 n1 e1 q1 p1 => ?_)
 refine W.r ?_
 refine WL.a (some 2) (.int .u8 0) h ?_
 refine WL.n ?_
 refine Go.weaken (l' := [(0, t0)]) (Fr.c Fr.n) ?_
 refine n1 ?_
 refine W.s (fun K2 n2 e2 q2 p2 => ?_)
 refine W.r ?_
 refine WL.a (some 5) t0 h ?_
 replace hF := callK_some hF; rcases hF with ⟨r6, h_3, e4, hF⟩ | ⟨r6, h_3, e4, q36⟩
 ·replace hF := obind_some hF; obtain ⟨t6, c5, hF⟩ := hF
  have c5 := avInt_some c5
  subst c5
  refine WL.c (hc.ok w0) (some 6) e4 ?_
  replace hF := obind_some hF; obtain ⟨t7, e6, hF⟩ := hF
  refine WL.b (some 7) (.int .u8 t7) h_3 (shl_int (P := Try.prog) (h := h_3) (t := 5) (k' := .u64) (lit := true) e6) ?_
  refine WL.a (some 3) (.int .u8 t7) h_3 ?_
  refine WL.n ?_
  refine Go.weaken (l' := [(0, t0), (3, .int .u8 t7)]) (Fr.c (Fr.c Fr.n)) ?_
  refine n2 ?_
  refine W.s (fun K7 n7 e7 q7 p7 => ?_)
  refine W.s (fun K8 n8 e8 q8 p8 => ?_)
  refine W.r ?_
  refine WL.a (some 8) (.int .u8 t7) h_3 ?_
  replace hF := callN_some hF; obtain ⟨r9, h_9, e10, hF⟩ := hF
  replace hF := obind_some hF; obtain ⟨t9, c11, hF⟩ := hF
  have c11 := avBool_some c11
  subst c11
  refine WL.c (hc.ok w0) (some 9) e10 ?_
  replace hF := lett_some hF; obtain ⟨t10, e12, hF⟩ := hF
  refine WL.val (d := (some 10)) (v := .bool t10) (h' := h_9) (by kernel_rfl) (by kernel_rfl) (val_of AV.bool e12 (by kernel_rfl)) ?_
  refine WL.n ?_
  refine Go.weaken (l' := [(0, t0), (3, .int .u8 t7), (10, .bool t10)]) (Fr.c (Fr.c (Fr.c Fr.n))) ?_
  refine n8 ?_
  replace hF := lett_some hF; obtain ⟨k13, e13, hF⟩ := hF
  have J13 : ∀  (h_14 : AHeap), k13 h_14 = some (rR, hR) → Go w0 m0 (Func.ntmps Try.f58) (K7 .normal) [(0, t0), (3, .int .u8 t7)] [] h_14 := by
   intro  h_14 hF
   rw [e13] at hF
   refine n7 ?_
   refine W.s (fun K15 n15 e15 q15 p15 => ?_)
   refine W.r ?_
   refine WL.a (some 13) (.int .u8 t7) h_14 ?_
   refine WL.a (some 14) t0 h_14 ?_
   replace hF := callK_some hF; rcases hF with ⟨r15, h_16, e17, hF⟩ | ⟨r15, h_16, e17, q32⟩
   ·replace hF := obind_some hF; obtain ⟨t15, c18, hF⟩ := hF
    have c18 := avInt_some c18
    subst c18
    refine WL.c (hc.ok w0) (some 15) e17 ?_
    replace hF := lett_some hF; obtain ⟨t16, e19, hF⟩ := hF
    refine WL.val (d := (some 16)) (v := .int .u8 t16) (h' := h_16) (by kernel_rfl) (by kernel_rfl) (val_of (AV.int .u8) e19 (by kernel_rfl)) ?_
    refine WL.a (some 4) (.int .u8 t16) h_16 ?_
    refine WL.n ?_
    refine Go.weaken (l' := [(0, t0), (4, .int .u8 t16)]) (Fr.c (Fr.c Fr.n)) ?_
    refine n15 ?_
    refine W.s (fun K20 n20 e20 q20 p20 => ?_)
    refine W.s (fun K21 n21 e21 q21 p21 => ?_)
    refine W.r ?_
    refine WL.a (some 17) (.int .u8 t16) h_16 ?_
    replace hF := callN_some hF; obtain ⟨r18, h_22, e23, hF⟩ := hF
    replace hF := obind_some hF; obtain ⟨t18, c24, hF⟩ := hF
    have c24 := avBool_some c24
    subst c24
    refine WL.c (hc.ok w0) (some 18) e23 ?_
    replace hF := lett_some hF; obtain ⟨t19, e25, hF⟩ := hF
    refine WL.val (d := (some 19)) (v := .bool t19) (h' := h_22) (by kernel_rfl) (by kernel_rfl) (val_of AV.bool e25 (by kernel_rfl)) ?_
    refine WL.n ?_
    refine Go.weaken (l' := [(0, t0), (4, .int .u8 t16), (19, .bool t19)]) (Fr.c (Fr.c (Fr.c Fr.n))) ?_
    refine n21 ?_
    replace hF := lett_some hF; obtain ⟨k26, e26, hF⟩ := hF
    have J26 : ∀  (h_27 : AHeap), k26 h_27 = some (rR, hR) → Go w0 m0 (Func.ntmps Try.f58) (K20 .normal) [(4, .int .u8 t16)] [] h_27 := by
     intro  h_27 hF
     rw [e26] at hF
     refine n20 ?_
     refine W.s (fun K28 n28 e28 q28 p28 => ?_)
     refine W.r ?_
     refine WL.a (some 22) (.int .u8 t16) h_27 ?_
     refine WL.a (some 2) (.int .u8 t16) h_27 ?_
     refine WL.n ?_
     refine Go.weaken (l' := [(2, .int .u8 t16)]) (Fr.c Fr.n) ?_
     refine n28 ?_
     refine W.ret (by kernel_rfl) ?_
     obtain ⟨hF, hF2⟩ := ret_inj hF; subst hF; subst hF2
     exact leave_of (rs := [.tmp 2]) (vs := [.int .u8 t16]) (by kernel_rfl) (res_tmp (by kernel_rfl) res_nil) (by kernel_rfl)
    cases t19 with
    | true =>
     replace hF := ifB_t hF
     refine W.t ?_
     refine W.r ?_
     refine WL.a (some 20) t0 h_22 ?_
     replace hF := callK_some hF; rcases hF with ⟨r21, h_29, e30, hF⟩ | ⟨r21, h_29, e30, q31⟩
     ·refine WL.c (hc.ok w0) (some 21) e30 ?_
      refine WL.n ?_
      refine Go.weaken (l' := [(4, .int .u8 t16)]) (Fr.c Fr.n) ?_
      exact Go.weaken (Fr.c Fr.n) (J26 _ hF)
     ·obtain ⟨zq, zr⟩ := pan_inj q31; subst zq; subst zr
      exact WL.callPanic (hc.ok w0) (d := (some 21)) (by kernel_rfl) (by kernel_rfl) (by kernel_rfl) e30 (p20 Pan.fin)
    | false =>
     replace hF := ifB_f hF
     refine W.f ?_
     refine W.skip (by kernel_rfl) ?_
     exact Go.weaken (Fr.c Fr.n) (J26 _ hF)
   ·obtain ⟨zq, zr⟩ := pan_inj q32; subst zq; subst zr
    exact WL.callPanic (hc.ok w0) (d := (some 15)) (by kernel_rfl) (by kernel_rfl) (by kernel_rfl) e17 (p15 Pan.fin)
  cases t10 with
  | true =>
   replace hF := ifB_t hF
   refine W.t ?_
   refine W.r ?_
   refine WL.a (some 11) t0 h_9 ?_
   replace hF := callK_some hF; rcases hF with ⟨r12, h_33, e34, hF⟩ | ⟨r12, h_33, e34, q35⟩
   ·refine WL.c (hc.ok w0) (some 12) e34 ?_
    refine WL.n ?_
    refine Go.weaken (l' := [(0, t0), (3, .int .u8 t7)]) (Fr.c (Fr.c Fr.n)) ?_
    exact Go.weaken (Fr.c (Fr.c Fr.n)) (J13 _ hF)
   ·obtain ⟨zq, zr⟩ := pan_inj q35; subst zq; subst zr
    exact WL.callPanic (hc.ok w0) (d := (some 12)) (by kernel_rfl) (by kernel_rfl) (by kernel_rfl) e34 (p7 Pan.fin)
  | false =>
   replace hF := ifB_f hF
   refine W.f ?_
   refine W.skip (by kernel_rfl) ?_
   exact Go.weaken (Fr.c (Fr.c Fr.n)) (J13 _ hF)
 ·obtain ⟨zq, zr⟩ := pan_inj q36; subst zq; subst zr
  exact WL.callPanic (hc.ok w0) (d := (some 6)) (by kernel_rfl) (by kernel_rfl) (by kernel_rfl) e4 (p2 Pan.fin)
noncomputable def pattern_reader_twoDigits_fn (call : CallF) (n : Nat) : FnT := fun args h => match args with
 | [x0] => pattern_reader_twoDigits call n x0 h
 | _ => none
set_option maxRecDepth 100000 in
theorem pattern_reader_twoDigits_fn_eq (call : CallF) (n : Nat) (t0 : AV) (h : AHeap) : pattern_reader_twoDigits_fn call n [t0] h = pattern_reader_twoDigits call n t0 h :=
 rfl
theorem pattern_reader_twoDigits_holds {call : CallF} (hc : SaysAll Try.prog call) (n : Nat) : Holds Try.prog 58 (pattern_reader_twoDigits_fn call n) := by
 intro args h r h2 e
 unfold pattern_reader_twoDigits_fn at e
 split at e
 ·exact pattern_reader_twoDigits_ok hc e
 ·cases e

noncomputable def pattern_reader_digit (call : CallF) (_ : Nat) (t0 : AV) (h : AHeap) : R :=
 callK (call 55 [t0] h) fun r5 h_3 =>
 obind (avInt .u8 r5) fun t5 =>
 callN (call 64 [strA ([48, 49, 50, 51, 52, 53, 54, 55, 56, 57, 97, 98, 99, 100, 101, 102] : Bytes), .int .u8 t5] h_3) fun r6 h_6 =>
 obind (avInt .i64 r6) fun t6 =>
 lett (decide (t6 < 0)) fun (t8 : Bool) =>
 lett (fun  (h_13 : AHeap) =>
  lett (IntKind.u8.wrap t6) fun (t12 : Int) =>
  some (.ret (.int .u8 t12), h_13)) fun k12 =>
 ifB t8
 (
  callK (call 57 [t0] h_6) fun _ h_16 =>
  k12 h_16)
 (
  k12 h_6)
set_option maxHeartbeats 4000000 in
set_option maxRecDepth 20000 in
theorem pattern_reader_digit_ok {call : CallF} (hc : SaysAll Try.prog call) {n : Nat} {t0 : AV} {h : AHeap} {rR : ARes} {hR : AHeap} (hF : pattern_reader_digit call n t0 h = some (rR, hR)) : Says Try.prog 61 [t0] h rR hR := by
 unfold pattern_reader_digit at hF
 refine says_of (fn := Try.f61) Try.func61 (c := codeOf Try.f61) (by kernel_rfl) (by kernel_rfl) (fun w0 m0 => ?_)
 refine W.weaken (l' := [(0, t0)]) (Fr.c Fr.n) ?_
 refine W.s (fun K1 n1 e1 q1 p1 => ?_)
 refine W.r ?_
 refine WL.a (some 2) (.int .u8 0) h ?_
 refine WL.n ?_
 refine Go.weaken (l' := [(0, t0)]) (Fr.c Fr.n) ?_
 refine n1 ?_
 refine W.s (fun K2 n2 e2 q2 p2 => ?_)
 refine W.r ?_
 refine WL.a (some 4) t0 h ?_
 replace hF := callK_some hF; rcases hF with ⟨r5, h_3, e4, hF⟩ | ⟨r5, h_3, e4, q19⟩
 ·replace hF := obind_some hF; obtain ⟨t5, c5, hF⟩ := hF
  have c5 := avInt_some c5
  subst c5
  refine WL.c (hc.ok w0) (some 5) e4 ?_
  replace hF := callN_some hF; obtain ⟨r6, h_6, e7, hF⟩ := hF
  replace hF := obind_some hF; obtain ⟨t6, c8, hF⟩ := hF
  have c8 := avInt_some c8
  subst c8
  refine WL.c (hc.ok w0) (some 6) e7 ?_
  refine WL.a (some 3) (.int .i64 t6) h_6 ?_
  refine WL.n ?_
  refine Go.weaken (l' := [(0, t0), (3, .int .i64 t6)]) (Fr.c (Fr.c Fr.n)) ?_
  refine n2 ?_
  refine W.s (fun K9 n9 e9 q9 p9 => ?_)
  refine W.s (fun K10 n10 e10 q10 p10 => ?_)
  refine W.r ?_
  refine WL.a (some 7) (.int .i64 t6) h_6 ?_
  replace hF := lett_some hF; obtain ⟨t8, e11, hF⟩ := hF
  refine WL.val (d := (some 8)) (v := .bool t8) (h' := h_6) (by kernel_rfl) (by kernel_rfl) (val_of AV.bool e11 (by kernel_rfl)) ?_
  refine WL.n ?_
  refine Go.weaken (l' := [(0, t0), (3, .int .i64 t6), (8, .bool t8)]) (Fr.c (Fr.c (Fr.c Fr.n))) ?_
  refine n10 ?_
  replace hF := lett_some hF; obtain ⟨k12, e12, hF⟩ := hF
  have J12 : ∀  (h_13 : AHeap), k12 h_13 = some (rR, hR) → Go w0 m0 (Func.ntmps Try.f61) (K9 .normal) [(3, .int .i64 t6)] [] h_13 := by
   intro  h_13 hF
   rw [e12] at hF
   refine n9 ?_
   refine W.s (fun K14 n14 e14 q14 p14 => ?_)
   refine W.r ?_
   refine WL.a (some 11) (.int .i64 t6) h_13 ?_
   replace hF := lett_some hF; obtain ⟨t12, e15, hF⟩ := hF
   refine WL.val (d := (some 12)) (v := .int .u8 t12) (h' := h_13) (by kernel_rfl) (by kernel_rfl) (val_of (AV.int .u8) e15 (by kernel_rfl)) ?_
   refine WL.a (some 2) (.int .u8 t12) h_13 ?_
   refine WL.n ?_
   refine Go.weaken (l' := [(2, .int .u8 t12)]) (Fr.c Fr.n) ?_
   refine n14 ?_
   refine W.ret (by kernel_rfl) ?_
   obtain ⟨hF, hF2⟩ := ret_inj hF; subst hF; subst hF2
   exact leave_of (rs := [.tmp 2]) (vs := [.int .u8 t12]) (by kernel_rfl) (res_tmp (by kernel_rfl) res_nil) (by kernel_rfl)
  cases t8 with
  | true =>
   replace hF := ifB_t hF
   refine W.t ?_
   refine W.r ?_
   refine WL.a (some 9) t0 h_6 ?_
   replace hF := callK_some hF; rcases hF with ⟨r10, h_16, e17, hF⟩ | ⟨r10, h_16, e17, q18⟩
   ·refine WL.c (hc.ok w0) (some 10) e17 ?_
    refine WL.n ?_
    refine Go.weaken (l' := [(3, .int .i64 t6)]) (Fr.c Fr.n) ?_
    exact Go.weaken (Fr.c Fr.n) (J12 _ hF)
   ·obtain ⟨zq, zr⟩ := pan_inj q18; subst zq; subst zr
    exact WL.callPanic (hc.ok w0) (d := (some 10)) (by kernel_rfl) (by kernel_rfl) (by kernel_rfl) e17 (p9 Pan.fin)
  | false =>
   replace hF := ifB_f hF
   refine W.f ?_
   refine W.skip (by kernel_rfl) ?_
   exact Go.weaken (Fr.c Fr.n) (J12 _ hF)
 ·obtain ⟨zq, zr⟩ := pan_inj q19; subst zq; subst zr
  exact WL.callPanic (hc.ok w0) (d := (some 5)) (by kernel_rfl) (by kernel_rfl) (by kernel_rfl) e4 (p2 Pan.fin)
noncomputable def pattern_reader_digit_fn (call : CallF) (n : Nat) : FnT := fun args h => match args with
 | [x0] => pattern_reader_digit call n x0 h
 | _ => none
set_option maxRecDepth 100000 in
theorem pattern_reader_digit_fn_eq (call : CallF) (n : Nat) (t0 : AV) (h : AHeap) : pattern_reader_digit_fn call n [t0] h = pattern_reader_digit call n t0 h :=
 rfl
theorem pattern_reader_digit_holds {call : CallF} (hc : SaysAll Try.prog call) (n : Nat) : Holds Try.prog 61 (pattern_reader_digit_fn call n) := by
 intro args h r h2 e
 unfold pattern_reader_digit_fn at e
 split at e
 ·exact pattern_reader_digit_ok hc e
 ·cases e

noncomputable def pattern_mayBegin_L0b (call : CallF) (t0 : Int) (k5 : AHeap → R) (self : Int → AHeap → R) (t4 : Int) (h_9 : AHeap) : R :=
 lett (decide (t4 < 16)) fun (t5 : Bool) =>
 ifB t5
 (
  lett (IntKind.u8.wrap t4) fun (t9 : Int) =>
  lett (orI .u8 t0 t9) fun (t10 : Int) =>
  callN (call 63 [.int .u8 t10] h_9) fun r11 h_19 =>
  obind (avBool r11) fun t11 =>
  ifB t11
  (
   some (.ret (.bool true), h_19))
  (
   lett (IntKind.i64.wrap (t4 + 1)) fun (t12 : Int) =>
   self t12 h_19))
 (
  k5 h_9)
noncomputable def pattern_mayBegin_L0 (call : CallF) (t0 : Int) (k5 : AHeap → R) : Nat → Int → AHeap → R := iterR (fun _ _ => none) (pattern_mayBegin_L0b call t0 k5)
theorem pattern_mayBegin_L0_s (call : CallF) (t0 : Int) (k5 : AHeap → R) (m : Nat) : pattern_mayBegin_L0 call t0 k5 (m + 1) = pattern_mayBegin_L0b call t0 k5 (pattern_mayBegin_L0 call t0 k5 m) := rfl
noncomputable def pattern_mayBegin (call : CallF) (n : Nat) (t0 : Int) (h : AHeap) : R :=
 lett (fun  (h_6 : AHeap) =>
  some (.ret (.bool false), h_6)) fun k5 =>
 pattern_mayBegin_L0 call t0 k5 n 0 h
set_option maxHeartbeats 4000000 in
set_option maxRecDepth 20000 in
theorem pattern_mayBegin_ok {call : CallF} (hc : SaysAll Try.prog call) {n : Nat} {t0 : Int} {h : AHeap} {rR : ARes} {hR : AHeap} (hF : pattern_mayBegin call n t0 h = some (rR, hR)) : Says Try.prog 62 [.int .u8 t0] h rR hR := by
 unfold pattern_mayBegin at hF
 refine says_of (fn := Try.f62) Try.func62 (c := codeOf Try.f62) (by kernel_rfl) (by kernel_rfl) (fun w0 m0 => ?_)
 refine W.weaken (l' := [(0, .int .u8 t0)]) (Fr.c Fr.n) ?_
 refine W.s (fun K1 n1 e1 q1 p1 => ?_)
 refine W.r ?_
 refine WL.a (some 2) (.bool false) h ?_
 refine WL.n ?_
 refine Go.weaken (l' := [(0, .int .u8 t0)]) (Fr.c Fr.n) ?_
 refine n1 ?_
 refine W.s (fun K2 n2 e2 q2 p2 => ?_)
 refine W.s (fun K3 n3 e3 q3 p3 => ?_)
 refine W.r ?_
 refine WL.a (some 4) (.int .i64 0) h ?_
 refine WL.n ?_
 refine Go.weaken (l' := [(0, .int .u8 t0), (4, .int .i64 0)]) (Fr.c (Fr.c Fr.n)) ?_
 refine n3 ?_
 replace hF := lett_some hF; obtain ⟨k5, e5, hF⟩ := hF
 have J5 : ∀  (h_6 : AHeap), k5 h_6 = some (rR, hR) → Go w0 m0 (Func.ntmps Try.f62) (K2 .normal) [] [] h_6 := by
  intro  h_6 hF
  rw [e5] at hF
  refine n2 ?_
  refine W.s (fun K7 n7 e7 q7 p7 => ?_)
  refine W.r ?_
  refine WL.a (some 2) (.bool false) h_6 ?_
  refine WL.n ?_
  refine Go.weaken (l' := [(2, .bool false)]) (Fr.c Fr.n) ?_
  refine n7 ?_
  refine W.ret (by kernel_rfl) ?_
  obtain ⟨hF, hF2⟩ := ret_inj hF; subst hF; subst hF2
  exact leave_of (rs := [.tmp 2]) (vs := [.bool false]) (by kernel_rfl) (res_tmp (by kernel_rfl) res_nil) (by kernel_rfl)
 refine W.blockK (by kernel_rfl) (fun K4 n4 s4 o4 q4 p4 => ?_)
 refine W.loopK (by kernel_rfl) (fun I8 K8 b8 n8 e8 q8 p8 => ?_)
 have L8 : ∀ (m : Nat) (t4 : Int) (h_9 : AHeap), pattern_mayBegin_L0 call t0 k5 m t4 h_9 = some (rR, hR) → Go w0 m0 (Func.ntmps Try.f62) I8 [(0, .int .u8 t0), (4, .int .i64 t4)] [] h_9 := by
  intro m
  induction m with
  | zero => intro t4 h_9 hF; cases hF
  | succ m ih8 =>
   intro t4 h_9 hF
   rw [pattern_mayBegin_L0_s] at hF; unfold pattern_mayBegin_L0b at hF
   refine b8 ?_
   refine W.s (fun K10 n10 e10 q10 p10 => ?_)
   refine W.r ?_
   replace hF := lett_some hF; obtain ⟨t5, e11, hF⟩ := hF
   refine WL.val (d := (some 5)) (v := .bool t5) (h' := h_9) (by kernel_rfl) (by kernel_rfl) (val_of AV.bool e11 (by kernel_rfl)) ?_
   refine WL.n ?_
   refine Go.weaken (l' := [(0, .int .u8 t0), (4, .int .i64 t4), (5, .bool t5)]) (Fr.c (Fr.c (Fr.c Fr.n))) ?_
   refine n10 ?_
   refine W.s (fun K12 n12 e12 q12 p12 => ?_)
   cases t5 with
   | true =>
    replace hF := ifB_t hF
    refine W.t ?_
    refine W.skip (by kernel_rfl) ?_
    refine n12 ?_
    refine W.s (fun K13 n13 e13 q13 p13 => ?_)
    refine W.blockK (by kernel_rfl) (fun K14 n14 s14 o14 q14 p14 => ?_)
    refine W.s (fun K15 n15 e15 q15 p15 => ?_)
    refine W.r ?_
    refine WL.a (some 6) (.int .i64 t4) h_9 ?_
    refine WL.a (some 3) (.int .i64 t4) h_9 ?_
    refine WL.n ?_
    refine Go.weaken (l' := [(0, .int .u8 t0), (3, .int .i64 t4), (4, .int .i64 t4)]) (Fr.c (Fr.c (Fr.c Fr.n))) ?_
    refine n15 ?_
    refine W.s (fun K16 n16 e16 q16 p16 => ?_)
    refine W.r ?_
    refine WL.a (some 7) (.int .u8 t0) h_9 ?_
    refine WL.a (some 8) (.int .i64 t4) h_9 ?_
    replace hF := lett_some hF; obtain ⟨t9, e17, hF⟩ := hF
    refine WL.val (d := (some 9)) (v := .int .u8 t9) (h' := h_9) (by kernel_rfl) (by kernel_rfl) (val_of (AV.int .u8) e17 (by kernel_rfl)) ?_
    replace hF := lett_some hF; obtain ⟨t10, e18, hF⟩ := hF
    refine WL.val (d := (some 10)) (v := .int .u8 t10) (h' := h_9) (by kernel_rfl) (by kernel_rfl) (val_of (AV.int .u8) e18 (by kernel_rfl)) ?_
    replace hF := callN_some hF; obtain ⟨r11, h_19, e20, hF⟩ := hF
    replace hF := obind_some hF; obtain ⟨t11, c21, hF⟩ := hF
    have c21 := avBool_some c21
    subst c21
    refine WL.c (hc.ok w0) (some 11) e20 ?_
    refine WL.n ?_
    refine Go.weaken (l' := [(0, .int .u8 t0), (4, .int .i64 t4), (11, .bool t11)]) (Fr.c (Fr.c (Fr.c Fr.n))) ?_
    refine n16 ?_
    cases t11 with
    | true =>
     replace hF := ifB_t hF
     refine W.t ?_
     refine W.s (fun K22 n22 e22 q22 p22 => ?_)
     refine W.r ?_
     refine WL.a (some 2) (.bool true) h_19 ?_
     refine WL.n ?_
     refine Go.weaken (l' := [(2, .bool true)]) (Fr.c Fr.n) ?_
     refine n22 ?_
     refine W.ret (by kernel_rfl) ?_
     refine q14 ?_
     refine q13 ?_
     refine q8 ?_
     refine q4 ?_
     refine q2 ?_
     obtain ⟨hF, hF2⟩ := ret_inj hF; subst hF; subst hF2
     exact leave_of (rs := [.tmp 2]) (vs := [.bool true]) (by kernel_rfl) (res_tmp (by kernel_rfl) res_nil) (by kernel_rfl)
    | false =>
     replace hF := ifB_f hF
     refine W.f ?_
     refine W.skip (by kernel_rfl) ?_
     refine n14 ?_
     refine n13 ?_
     refine W.r ?_
     replace hF := lett_some hF; obtain ⟨t12, e23, hF⟩ := hF
     refine WL.val (d := (some 12)) (v := .int .i64 t12) (h' := h_19) (by kernel_rfl) (by kernel_rfl) (val_of (AV.int .i64) e23 (by kernel_rfl)) ?_
     refine WL.a (some 4) (.int .i64 t12) h_19 ?_
     refine WL.n ?_
     refine Go.weaken (l' := [(0, .int .u8 t0), (4, .int .i64 t12)]) (Fr.c (Fr.c Fr.n)) ?_
     refine n8 ?_
     exact Go.weaken (Fr.c (Fr.c Fr.n)) (ih8 _ _ hF)
   | false =>
    replace hF := ifB_f hF
    refine W.f ?_
    refine W.exit (by kernel_rfl) ?_
    refine e12 ?_
    refine e8 ?_
    refine s4 (by kernel_rfl) ?_
    exact Go.weaken Fr.n (J5 _ hF)
 exact Go.weaken (Fr.c (Fr.c Fr.n)) (L8 _ _ _ hF)
noncomputable def pattern_mayBegin_fn (call : CallF) (n : Nat) : FnT := fun args h => match args with
 | [x0] => obind (avInt .u8 x0) fun t0 => pattern_mayBegin call n t0 h
 | _ => none
set_option maxRecDepth 100000 in
theorem pattern_mayBegin_fn_eq (call : CallF) (n : Nat) (t0 : Int) (h : AHeap) : pattern_mayBegin_fn call n [.int .u8 t0] h = pattern_mayBegin call n t0 h :=
 (Eq.trans (obind_eq (fun t0 => pattern_mayBegin call n t0 h) (avInt_int .u8 t0)) rfl)
theorem pattern_mayBegin_holds {call : CallF} (hc : SaysAll Try.prog call) (n : Nat) : Holds Try.prog 62 (pattern_mayBegin_fn call n) := by
 intro args h r h2 e
 unfold pattern_mayBegin_fn at e
 split at e
 ·replace e := obind_some e; obtain ⟨t0, c0, e⟩ := e; have c0 := avInt_some c0; subst c0
  exact pattern_mayBegin_ok hc e
 ·cases e

noncomputable def pattern_byDigits (call : CallF) (_ : Nat) (t0 : Int) (h : AHeap) : R :=
 callN (call 65 [.int .u8 t0] h) fun r4 h_3 =>
 obind (avInt .u8 r4) fun t4 =>
 lett ((t4 : Int) == 0) fun (t5 : Bool) =>
 lett (fun (t10 : Bool) (h_7 : AHeap) =>
  some (.ret (.bool t10), h_7)) fun j10 =>
 ifB t5
 (
  callN (call 56 [.int .u8 t0] h_3) fun r8 h_10 =>
  obind (avBool r8) fun t8 =>
  lett (!t8) fun (t9 : Bool) =>
  j10 t9 h_10)
 (
  j10 false h_3)
set_option maxHeartbeats 4000000 in
set_option maxRecDepth 20000 in
theorem pattern_byDigits_ok {call : CallF} (hc : SaysAll Try.prog call) {n : Nat} {t0 : Int} {h : AHeap} {rR : ARes} {hR : AHeap} (hF : pattern_byDigits call n t0 h = some (rR, hR)) : Says Try.prog 63 [.int .u8 t0] h rR hR := by
 unfold pattern_byDigits at hF
 refine says_of (fn := Try.f63) Try.func63 (c := codeOf Try.f63) (by kernel_rfl) (by kernel_rfl) (fun w0 m0 => ?_)
 refine W.weaken (l' := [(0, .int .u8 t0)]) (Fr.c Fr.n) ?_
 refine W.s (fun K1 n1 e1 q1 p1 => ?_)
 refine W.r ?_
 refine WL.a (some 2) (.bool false) h ?_
 refine WL.n ?_
 refine Go.weaken (l' := [(0, .int .u8 t0)]) (Fr.c Fr.n) ?_
 refine n1 ?_
 refine W.s (fun K2 n2 e2 q2 p2 => ?_)
 refine W.r ?_
 refine WL.a (some 3) (.int .u8 t0) h ?_
 replace hF := callN_some hF; obtain ⟨r4, h_3, e4, hF⟩ := hF
 replace hF := obind_some hF; obtain ⟨t4, c5, hF⟩ := hF
 have c5 := avInt_some c5
 subst c5
 refine WL.c (hc.ok w0) (some 4) e4 ?_
 replace hF := lett_some hF; obtain ⟨t5, e6, hF⟩ := hF
 refine WL.val (d := (some 5)) (v := .bool t5) (h' := h_3) (by kernel_rfl) (by kernel_rfl) (val_of AV.bool e6 (by kernel_rfl)) ?_
 refine WL.a (some 6) (.bool t5) h_3 ?_
 replace hF := lett_some hF; obtain ⟨j10, e8, hF⟩ := hF
 have J9 : ∀ (t10 : Bool) (h_7 : AHeap), j10 t10 h_7 = some (rR, hR) → WL Try.prog w0 m0 (Func.ntmps Try.f63) (Code.ops (Code.p1 (Code.p2 (codeOf Try.f63)))) 8 K2 [(10, .bool t10)] [] h_7 := by
  intro t10 h_7 hF
  rw [e8] at hF
  refine WL.a (some 2) (.bool t10) h_7 ?_
  refine WL.n ?_
  refine Go.weaken (l' := [(2, .bool t10)]) (Fr.c Fr.n) ?_
  refine n2 ?_
  refine W.ret (by kernel_rfl) ?_
  obtain ⟨hF, hF2⟩ := ret_inj hF; subst hF; subst hF2
  exact leave_of (rs := [.tmp 2]) (vs := [.bool t10]) (by kernel_rfl) (res_tmp (by kernel_rfl) res_nil) (by kernel_rfl)
 cases t5 with
 | true =>
  replace hF := ifB_t hF
  refine WL.a (some 7) (.int .u8 t0) h_3 ?_
  replace hF := callN_some hF; obtain ⟨r8, h_10, e11, hF⟩ := hF
  replace hF := obind_some hF; obtain ⟨t8, c12, hF⟩ := hF
  have c12 := avBool_some c12
  subst c12
  refine WL.c (hc.ok w0) (some 8) e11 ?_
  replace hF := lett_some hF; obtain ⟨t9, e13, hF⟩ := hF
  refine WL.val (d := (some 9)) (v := .bool t9) (h' := h_10) (by kernel_rfl) (by kernel_rfl) (val_of AV.bool e13 (by kernel_rfl)) ?_
  refine WL.a (some 10) (.bool t9) h_10 ?_
  exact WL.weaken (Fr.c Fr.n) (J9 _ _ hF)
 | false =>
  replace hF := ifB_f hF
  refine WL.o (some 7) ?_
  refine WL.o (some 8) ?_
  refine WL.o (some 9) ?_
  refine WL.a (some 10) (.bool false) h_3 ?_
  exact WL.weaken (Fr.c Fr.n) (J9 _ _ hF)
noncomputable def pattern_byDigits_fn (call : CallF) (n : Nat) : FnT := fun args h => match args with
 | [x0] => obind (avInt .u8 x0) fun t0 => pattern_byDigits call n t0 h
 | _ => none
set_option maxRecDepth 100000 in
theorem pattern_byDigits_fn_eq (call : CallF) (n : Nat) (t0 : Int) (h : AHeap) : pattern_byDigits_fn call n [.int .u8 t0] h = pattern_byDigits call n t0 h :=
 (Eq.trans (obind_eq (fun t0 => pattern_byDigits call n t0 h) (avInt_int .u8 t0)) rfl)
theorem pattern_byDigits_holds {call : CallF} (hc : SaysAll Try.prog call) (n : Nat) : Holds Try.prog 63 (pattern_byDigits_fn call n) := by
 intro args h r h2 e
 unfold pattern_byDigits_fn at e
 split at e
 ·replace e := obind_some e; obtain ⟨t0, c0, e⟩ := e; have c0 := avInt_some c0; subst c0
  exact pattern_byDigits_ok hc e
 ·cases e

noncomputable def pattern_short (_ : CallF) (_ : Nat) (t0 : Int) (h : AHeap) : R :=
 lett ((t0 : Int) == 34) fun (t5 : Bool) =>
 lett (fun (t4 : Bool) (h_9 : AHeap) =>
  ifB t4
  (
   some (.ret (.int .u8 t0), h_9))
  (
   lett ((t0 : Int) == 10) fun (t9 : Bool) =>
   ifB t9
   (
    some (.ret (.int .u8 110), h_9))
   (
    lett ((t0 : Int) == 13) fun (t11 : Bool) =>
    ifB t11
    (
     some (.ret (.int .u8 114), h_9))
    (
     lett ((t0 : Int) == 9) fun (t13 : Bool) =>
     ifB t13
     (
      some (.ret (.int .u8 116), h_9))
     (
      some (.ret (.int .u8 0), h_9)))))) fun k8 =>
 ifB t5
 (
  k8 true h)
 (
  lett ((t0 : Int) == 92) fun (t6 : Bool) =>
  k8 t6 h)
set_option maxHeartbeats 4000000 in
set_option maxRecDepth 20000 in
theorem pattern_short_ok {call : CallF} (_ : SaysAll Try.prog call) {n : Nat} {t0 : Int} {h : AHeap} {rR : ARes} {hR : AHeap} (hF : pattern_short call n t0 h = some (rR, hR)) : Says Try.prog 65 [.int .u8 t0] h rR hR := by
 unfold pattern_short at hF
 refine says_of (fn := Try.f65) Try.func65 (c := codeOf Try.f65) (by kernel_rfl) (by kernel_rfl) (fun w0 m0 => ?_)
 refine W.weaken (l' := [(0, .int .u8 t0)]) (Fr.c Fr.n) ?_
 refine W.s (fun K1 n1 e1 q1 p1 => ?_)
 refine W.r ?_
 refine WL.a (some 2) (.int .u8 0) h ?_
 refine WL.n ?_
 refine Go.weaken (l' := [(0, .int .u8 t0)]) (Fr.c Fr.n) ?_
 refine n1 ?_
 refine W.s (fun K2 n2 e2 q2 p2 => ?_)
 refine W.s (fun K3 n3 e3 q3 p3 => ?_)
 refine W.r ?_
 refine WL.a (some 3) (.int .u8 t0) h ?_
 refine WL.n ?_
 refine Go.weaken (l' := [(0, .int .u8 t0), (3, .int .u8 t0)]) (Fr.c (Fr.c Fr.n)) ?_
 refine n3 ?_
 refine W.blockK (by kernel_rfl) (fun K4 n4 s4 o4 q4 p4 => ?_)
 refine W.s (fun K5 n5 e5 q5 p5 => ?_)
 refine W.s (fun K6 n6 e6 q6 p6 => ?_)
 refine W.r ?_
 replace hF := lett_some hF; obtain ⟨t5, e7, hF⟩ := hF
 refine WL.val (d := (some 5)) (v := .bool t5) (h' := h) (by kernel_rfl) (by kernel_rfl) (val_of AV.bool e7 (by kernel_rfl)) ?_
 refine WL.a (some 4) (.bool t5) h ?_
 refine WL.n ?_
 refine Go.weaken (l' := [(0, .int .u8 t0), (3, .int .u8 t0), (4, .bool t5)]) (Fr.c (Fr.c (Fr.c Fr.n))) ?_
 refine n6 ?_
 replace hF := lett_some hF; obtain ⟨k8, e8, hF⟩ := hF
 have J8 : ∀ (t4 : Bool) (h_9 : AHeap), k8 t4 h_9 = some (rR, hR) → Go w0 m0 (Func.ntmps Try.f65) (K5 .normal) [(0, .int .u8 t0), (3, .int .u8 t0), (4, .bool t4)] [] h_9 := by
  intro t4 h_9 hF
  rw [e8] at hF
  refine n5 ?_
  cases t4 with
  | true =>
   replace hF := ifB_t hF
   refine W.t ?_
   refine W.s (fun K10 n10 e10 q10 p10 => ?_)
   refine W.r ?_
   refine WL.a (some 7) (.int .u8 t0) h_9 ?_
   refine WL.a (some 2) (.int .u8 t0) h_9 ?_
   refine WL.n ?_
   refine Go.weaken (l' := [(2, .int .u8 t0)]) (Fr.c Fr.n) ?_
   refine n10 ?_
   refine W.ret (by kernel_rfl) ?_
   refine q4 ?_
   refine q2 ?_
   obtain ⟨hF, hF2⟩ := ret_inj hF; subst hF; subst hF2
   exact leave_of (rs := [.tmp 2]) (vs := [.int .u8 t0]) (by kernel_rfl) (res_tmp (by kernel_rfl) res_nil) (by kernel_rfl)
  | false =>
   replace hF := ifB_f hF
   refine W.f ?_
   refine W.s (fun K11 n11 e11 q11 p11 => ?_)
   refine W.r ?_
   replace hF := lett_some hF; obtain ⟨t9, e12, hF⟩ := hF
   refine WL.val (d := (some 9)) (v := .bool t9) (h' := h_9) (by kernel_rfl) (by kernel_rfl) (val_of AV.bool e12 (by kernel_rfl)) ?_
   refine WL.a (some 8) (.bool t9) h_9 ?_
   refine WL.n ?_
   refine Go.weaken (l' := [(3, .int .u8 t0), (8, .bool t9)]) (Fr.c (Fr.c Fr.n)) ?_
   refine n11 ?_
   cases t9 with
   | true =>
    replace hF := ifB_t hF
    refine W.t ?_
    refine W.s (fun K13 n13 e13 q13 p13 => ?_)
    refine W.r ?_
    refine WL.a (some 2) (.int .u8 110) h_9 ?_
    refine WL.n ?_
    refine Go.weaken (l' := [(2, .int .u8 110)]) (Fr.c Fr.n) ?_
    refine n13 ?_
    refine W.ret (by kernel_rfl) ?_
    refine q4 ?_
    refine q2 ?_
    obtain ⟨hF, hF2⟩ := ret_inj hF; subst hF; subst hF2
    exact leave_of (rs := [.tmp 2]) (vs := [.int .u8 110]) (by kernel_rfl) (res_tmp (by kernel_rfl) res_nil) (by kernel_rfl)
   | false =>
    replace hF := ifB_f hF
    refine W.f ?_
    refine W.s (fun K14 n14 e14 q14 p14 => ?_)
    refine W.r ?_
    replace hF := lett_some hF; obtain ⟨t11, e15, hF⟩ := hF
    refine WL.val (d := (some 11)) (v := .bool t11) (h' := h_9) (by kernel_rfl) (by kernel_rfl) (val_of AV.bool e15 (by kernel_rfl)) ?_
    refine WL.a (some 10) (.bool t11) h_9 ?_
    refine WL.n ?_
    refine Go.weaken (l' := [(3, .int .u8 t0), (10, .bool t11)]) (Fr.c (Fr.c Fr.n)) ?_
    refine n14 ?_
    cases t11 with
    | true =>
     replace hF := ifB_t hF
     refine W.t ?_
     refine W.s (fun K16 n16 e16 q16 p16 => ?_)
     refine W.r ?_
     refine WL.a (some 2) (.int .u8 114) h_9 ?_
     refine WL.n ?_
     refine Go.weaken (l' := [(2, .int .u8 114)]) (Fr.c Fr.n) ?_
     refine n16 ?_
     refine W.ret (by kernel_rfl) ?_
     refine q4 ?_
     refine q2 ?_
     obtain ⟨hF, hF2⟩ := ret_inj hF; subst hF; subst hF2
     exact leave_of (rs := [.tmp 2]) (vs := [.int .u8 114]) (by kernel_rfl) (res_tmp (by kernel_rfl) res_nil) (by kernel_rfl)
    | false =>
     replace hF := ifB_f hF
     refine W.f ?_
     refine W.s (fun K17 n17 e17 q17 p17 => ?_)
     refine W.r ?_
     replace hF := lett_some hF; obtain ⟨t13, e18, hF⟩ := hF
     refine WL.val (d := (some 13)) (v := .bool t13) (h' := h_9) (by kernel_rfl) (by kernel_rfl) (val_of AV.bool e18 (by kernel_rfl)) ?_
     refine WL.a (some 12) (.bool t13) h_9 ?_
     refine WL.n ?_
     refine Go.weaken (l' := [(12, .bool t13)]) (Fr.c Fr.n) ?_
     refine n17 ?_
     cases t13 with
     | true =>
      replace hF := ifB_t hF
      refine W.t ?_
      refine W.s (fun K19 n19 e19 q19 p19 => ?_)
      refine W.r ?_
      refine WL.a (some 2) (.int .u8 116) h_9 ?_
      refine WL.n ?_
      refine Go.weaken (l' := [(2, .int .u8 116)]) (Fr.c Fr.n) ?_
      refine n19 ?_
      refine W.ret (by kernel_rfl) ?_
      refine q4 ?_
      refine q2 ?_
      obtain ⟨hF, hF2⟩ := ret_inj hF; subst hF; subst hF2
      exact leave_of (rs := [.tmp 2]) (vs := [.int .u8 116]) (by kernel_rfl) (res_tmp (by kernel_rfl) res_nil) (by kernel_rfl)
     | false =>
      replace hF := ifB_f hF
      refine W.f ?_
      refine W.skip (by kernel_rfl) ?_
      refine n4 ?_
      refine n2 ?_
      refine W.s (fun K20 n20 e20 q20 p20 => ?_)
      refine W.r ?_
      refine WL.a (some 2) (.int .u8 0) h_9 ?_
      refine WL.n ?_
      refine Go.weaken (l' := [(2, .int .u8 0)]) (Fr.c Fr.n) ?_
      refine n20 ?_
      refine W.ret (by kernel_rfl) ?_
      obtain ⟨hF, hF2⟩ := ret_inj hF; subst hF; subst hF2
      exact leave_of (rs := [.tmp 2]) (vs := [.int .u8 0]) (by kernel_rfl) (res_tmp (by kernel_rfl) res_nil) (by kernel_rfl)
 cases t5 with
 | true =>
  replace hF := ifB_t hF
  refine W.t ?_
  refine W.skip (by kernel_rfl) ?_
  exact Go.weaken (Fr.c (Fr.c (Fr.c Fr.n))) (J8 _ _ hF)
 | false =>
  replace hF := ifB_f hF
  refine W.f ?_
  refine W.r ?_
  replace hF := lett_some hF; obtain ⟨t6, e21, hF⟩ := hF
  refine WL.val (d := (some 6)) (v := .bool t6) (h' := h) (by kernel_rfl) (by kernel_rfl) (val_of AV.bool e21 (by kernel_rfl)) ?_
  refine WL.a (some 4) (.bool t6) h ?_
  refine WL.n ?_
  refine Go.weaken (l' := [(0, .int .u8 t0), (3, .int .u8 t0), (4, .bool t6)]) (Fr.c (Fr.c (Fr.c Fr.n))) ?_
  exact Go.weaken (Fr.c (Fr.c (Fr.c Fr.n))) (J8 _ _ hF)
noncomputable def pattern_short_fn (call : CallF) (n : Nat) : FnT := fun args h => match args with
 | [x0] => obind (avInt .u8 x0) fun t0 => pattern_short call n t0 h
 | _ => none
set_option maxRecDepth 100000 in
theorem pattern_short_fn_eq (call : CallF) (n : Nat) (t0 : Int) (h : AHeap) : pattern_short_fn call n [.int .u8 t0] h = pattern_short call n t0 h :=
 (Eq.trans (obind_eq (fun t0 => pattern_short call n t0 h) (avInt_int .u8 t0)) rfl)
theorem pattern_short_holds {call : CallF} (hc : SaysAll Try.prog call) (n : Nat) : Holds Try.prog 65 (pattern_short_fn call n) := by
 intro args h r h2 e
 unfold pattern_short_fn at e
 split at e
 ·replace e := obind_some e; obtain ⟨t0, c0, e⟩ := e; have c0 := avInt_some c0; subst c0
  exact pattern_short_ok hc e
 ·cases e

noncomputable def pattern_plain (_ : CallF) (_ : Nat) (t0 : Int) (h : AHeap) : R :=
 lett (decide (t0 ≥ 32)) fun (t4 : Bool) =>
 lett (fun (t8 : Bool) (h_4 : AHeap) =>
  some (.ret (.bool t8), h_4)) fun j8 =>
 ifB t4
 (
  lett (decide (t0 ≤ 126)) fun (t7 : Bool) =>
  j8 t7 h)
 (
  j8 false h)
set_option maxHeartbeats 4000000 in
set_option maxRecDepth 20000 in
theorem pattern_plain_ok {call : CallF} (_ : SaysAll Try.prog call) {n : Nat} {t0 : Int} {h : AHeap} {rR : ARes} {hR : AHeap} (hF : pattern_plain call n t0 h = some (rR, hR)) : Says Try.prog 56 [.int .u8 t0] h rR hR := by
 unfold pattern_plain at hF
 refine says_of (fn := Try.f56) Try.func56 (c := codeOf Try.f56) (by kernel_rfl) (by kernel_rfl) (fun w0 m0 => ?_)
 refine W.weaken (l' := [(0, .int .u8 t0)]) (Fr.c Fr.n) ?_
 refine W.s (fun K1 n1 e1 q1 p1 => ?_)
 refine W.r ?_
 refine WL.a (some 2) (.bool false) h ?_
 refine WL.n ?_
 refine Go.weaken (l' := [(0, .int .u8 t0)]) (Fr.c Fr.n) ?_
 refine n1 ?_
 refine W.s (fun K2 n2 e2 q2 p2 => ?_)
 refine W.r ?_
 refine WL.a (some 3) (.int .u8 t0) h ?_
 replace hF := lett_some hF; obtain ⟨t4, e3, hF⟩ := hF
 refine WL.val (d := (some 4)) (v := .bool t4) (h' := h) (by kernel_rfl) (by kernel_rfl) (val_of AV.bool e3 (by kernel_rfl)) ?_
 refine WL.a (some 5) (.bool t4) h ?_
 replace hF := lett_some hF; obtain ⟨j8, e5, hF⟩ := hF
 have J6 : ∀ (t8 : Bool) (h_4 : AHeap), j8 t8 h_4 = some (rR, hR) → WL Try.prog w0 m0 (Func.ntmps Try.f56) (Code.ops (Code.p1 (Code.p2 (codeOf Try.f56)))) 6 K2 [(8, .bool t8)] [] h_4 := by
  intro t8 h_4 hF
  rw [e5] at hF
  refine WL.a (some 2) (.bool t8) h_4 ?_
  refine WL.n ?_
  refine Go.weaken (l' := [(2, .bool t8)]) (Fr.c Fr.n) ?_
  refine n2 ?_
  refine W.ret (by kernel_rfl) ?_
  obtain ⟨hF, hF2⟩ := ret_inj hF; subst hF; subst hF2
  exact leave_of (rs := [.tmp 2]) (vs := [.bool t8]) (by kernel_rfl) (res_tmp (by kernel_rfl) res_nil) (by kernel_rfl)
 cases t4 with
 | true =>
  replace hF := ifB_t hF
  refine WL.a (some 6) (.int .u8 t0) h ?_
  replace hF := lett_some hF; obtain ⟨t7, e7, hF⟩ := hF
  refine WL.val (d := (some 7)) (v := .bool t7) (h' := h) (by kernel_rfl) (by kernel_rfl) (val_of AV.bool e7 (by kernel_rfl)) ?_
  refine WL.a (some 8) (.bool t7) h ?_
  exact WL.weaken (Fr.c Fr.n) (J6 _ _ hF)
 | false =>
  replace hF := ifB_f hF
  refine WL.o (some 6) ?_
  refine WL.o (some 7) ?_
  refine WL.a (some 8) (.bool false) h ?_
  exact WL.weaken (Fr.c Fr.n) (J6 _ _ hF)
noncomputable def pattern_plain_fn (call : CallF) (n : Nat) : FnT := fun args h => match args with
 | [x0] => obind (avInt .u8 x0) fun t0 => pattern_plain call n t0 h
 | _ => none
set_option maxRecDepth 100000 in
theorem pattern_plain_fn_eq (call : CallF) (n : Nat) (t0 : Int) (h : AHeap) : pattern_plain_fn call n [.int .u8 t0] h = pattern_plain call n t0 h :=
 (Eq.trans (obind_eq (fun t0 => pattern_plain call n t0 h) (avInt_int .u8 t0)) rfl)
theorem pattern_plain_holds {call : CallF} (hc : SaysAll Try.prog call) (n : Nat) : Holds Try.prog 56 (pattern_plain_fn call n) := by
 intro args h r h2 e
 unfold pattern_plain_fn at e
 split at e
 ·replace e := obind_some e; obtain ⟨t0, c0, e⟩ := e; have c0 := avInt_some c0; subst c0
  exact pattern_plain_ok hc e
 ·cases e

noncomputable def strings_Builder_WriteByte (call : CallF) (_ : Nat) (t0 : AV) (t1 : Int) (h : AHeap) : R :=
 callN (call 54 [t0] h) fun _ h_3 =>
 obind (nilC t0) fun t9 =>
 obind (fldP 1 t9) fun t10 =>
 obind (ldCell h_3 t10) fun v11 =>
 outK (bldSl Try.prog h_3 57 1 [(0, .int .u8 t1)]) fun v13 h_9 =>
 outK (opAppend Try.prog h_9 57 57 v11 v13) fun v14 h_11 =>
 obind (nilC t0) fun t15 =>
 obind (fldP 1 t15) fun t16 =>
 obind (stRow h_11 1 (AV.cells v14) t16) fun h_15 =>
 some (.ret (AV.nifc), h_15)
set_option maxHeartbeats 4000000 in
set_option maxRecDepth 20000 in
theorem strings_Builder_WriteByte_ok {call : CallF} (hc : SaysAll Try.prog call) {n : Nat} {t0 : AV} {t1 : Int} {h : AHeap} {rR : ARes} {hR : AHeap} (hF : strings_Builder_WriteByte call n t0 t1 h = some (rR, hR)) : Says Try.prog 50 [t0, .int .u8 t1] h rR hR := by
 unfold strings_Builder_WriteByte at hF
 refine says_of (fn := Try.f50) Try.func50 (c := codeOf Try.f50) (by kernel_rfl) (by kernel_rfl) (fun w0 m0 => ?_)
 refine W.weaken (l' := [(0, t0), (1, .int .u8 t1)]) (Fr.c (Fr.c Fr.n)) ?_
 refine W.s (fun K1 n1 e1 q1 p1 => ?_)
 refine W.r ?_
 refine WL.a (some 4) AV.nifc h ?_
 refine WL.n ?_
 refine Go.weaken (l' := [(0, t0), (1, .int .u8 t1)]) (Fr.c (Fr.c Fr.n)) ?_
 refine n1 ?_
 refine W.s (fun K2 n2 e2 q2 p2 => ?_)
 refine W.r ?_
 refine WL.a (some 5) t0 h ?_
 replace hF := callN_some hF; obtain ⟨r6, h_3, e4, hF⟩ := hF
 refine WL.c (hc.ok w0) (some 6) e4 ?_
 refine WL.n ?_
 refine Go.weaken (l' := [(0, t0), (1, .int .u8 t1)]) (Fr.c (Fr.c Fr.n)) ?_
 refine n2 ?_
 refine W.s (fun K5 n5 e5 q5 p5 => ?_)
 refine W.r ?_
 refine WL.a (some 7) t0 h_3 ?_
 refine WL.a (some 8) t0 h_3 ?_
 replace hF := obind_some hF; obtain ⟨t9, e6, hF⟩ := hF
 refine WL.b (some 9) t9 h_3 (nil_chk (h := h_3) e6) ?_
 replace hF := obind_some hF; obtain ⟨t10, e7, hF⟩ := hF
 refine WL.b (some 10) t10 h_3 (field_ptr (P := Try.prog) (h := h_3) (s := 70) (f := 1) (by kernel_rfl) e7) ?_
 replace hF := obind_some hF; obtain ⟨v11, e8, hF⟩ := hF
 refine WL.b (some 11) v11 h_3 (load_cell (P := Try.prog) (h := h_3) (t := 57) (by kernel_rfl) e8) ?_
 refine WL.a (some 12) (.int .u8 t1) h_3 ?_
 replace hF := outK_some hF; obtain ⟨v13, h_9, e10, hF⟩ := hF
 refine WL.b (some 13) v13 h_9 e10 ?_
 replace hF := outK_some hF; obtain ⟨v14, h_11, e12, hF⟩ := hF
 refine WL.b (some 14) v14 h_11 e12 ?_
 replace hF := obind_some hF; obtain ⟨t15, e13, hF⟩ := hF
 refine WL.b (some 15) t15 h_11 (nil_chk (h := h_11) e13) ?_
 replace hF := obind_some hF; obtain ⟨t16, e14, hF⟩ := hF
 refine WL.b (some 16) t16 h_11 (field_ptr (P := Try.prog) (h := h_11) (s := 70) (f := 1) (by kernel_rfl) e14) ?_
 replace hF := obind_some hF; obtain ⟨h_15, e16, hF⟩ := hF
 refine WL.e h_15 (store_row (P := Try.prog) (h := h_11) (t := 57) (v := v14) (by kernel_rfl) (by kernel_rfl) e16) ?_
 refine WL.n ?_
 refine Go.weaken (l' := []) Fr.n ?_
 refine n5 ?_
 refine W.s (fun K17 n17 e17 q17 p17 => ?_)
 refine W.r ?_
 refine WL.a (some 4) AV.nifc h_15 ?_
 refine WL.n ?_
 refine Go.weaken (l' := [(4, AV.nifc)]) (Fr.c Fr.n) ?_
 refine n17 ?_
 refine W.ret (by kernel_rfl) ?_
 obtain ⟨hF, hF2⟩ := ret_inj hF; subst hF; subst hF2
 exact leave_of (rs := [.tmp 4]) (vs := [AV.nifc]) (by kernel_rfl) (res_tmp (by kernel_rfl) res_nil) (by kernel_rfl)
noncomputable def strings_Builder_WriteByte_fn (call : CallF) (n : Nat) : FnT := fun args h => match args with
 | [x0, x1] => obind (avInt .u8 x1) fun t1 => strings_Builder_WriteByte call n x0 t1 h
 | _ => none
set_option maxRecDepth 100000 in
theorem strings_Builder_WriteByte_fn_eq (call : CallF) (n : Nat) (t0 : AV) (t1 : Int) (h : AHeap) : strings_Builder_WriteByte_fn call n [t0, .int .u8 t1] h = strings_Builder_WriteByte call n t0 t1 h :=
 (Eq.trans (obind_eq (fun t1 => strings_Builder_WriteByte call n t0 t1 h) (avInt_int .u8 t1)) rfl)
theorem strings_Builder_WriteByte_holds {call : CallF} (hc : SaysAll Try.prog call) (n : Nat) : Holds Try.prog 50 (strings_Builder_WriteByte_fn call n) := by
 intro args h r h2 e
 unfold strings_Builder_WriteByte_fn at e
 split at e
 ·replace e := obind_some e; obtain ⟨t1, c1, e⟩ := e; have c1 := avInt_some c1; subst c1
  exact strings_Builder_WriteByte_ok hc e
 ·cases e

noncomputable def strings_Builder_Len (_ : CallF) (_ : Nat) (t0 : AV) (h : AHeap) : R :=
 obind (nilC t0) fun t4 =>
 obind (fldP 1 t4) fun t5 =>
 obind (ldCell h t5) fun v6 =>
 obind (lenL v6) fun t7 =>
 some (.ret (.int .i64 t7), h)
set_option maxHeartbeats 4000000 in
set_option maxRecDepth 20000 in
theorem strings_Builder_Len_ok {call : CallF} (_ : SaysAll Try.prog call) {n : Nat} {t0 : AV} {h : AHeap} {rR : ARes} {hR : AHeap} (hF : strings_Builder_Len call n t0 h = some (rR, hR)) : Says Try.prog 48 [t0] h rR hR := by
 unfold strings_Builder_Len at hF
 refine says_of (fn := Try.f48) Try.func48 (c := codeOf Try.f48) (by kernel_rfl) (by kernel_rfl) (fun w0 m0 => ?_)
 refine W.weaken (l' := [(0, t0)]) (Fr.c Fr.n) ?_
 refine W.s (fun K1 n1 e1 q1 p1 => ?_)
 refine W.r ?_
 refine WL.a (some 2) (.int .i64 0) h ?_
 refine WL.n ?_
 refine Go.weaken (l' := [(0, t0)]) (Fr.c Fr.n) ?_
 refine n1 ?_
 refine W.s (fun K2 n2 e2 q2 p2 => ?_)
 refine W.r ?_
 refine WL.a (some 3) t0 h ?_
 replace hF := obind_some hF; obtain ⟨t4, e3, hF⟩ := hF
 refine WL.b (some 4) t4 h (nil_chk (h := h) e3) ?_
 replace hF := obind_some hF; obtain ⟨t5, e4, hF⟩ := hF
 refine WL.b (some 5) t5 h (field_ptr (P := Try.prog) (h := h) (s := 70) (f := 1) (by kernel_rfl) e4) ?_
 replace hF := obind_some hF; obtain ⟨v6, e5, hF⟩ := hF
 refine WL.b (some 6) v6 h (load_cell (P := Try.prog) (h := h) (t := 57) (by kernel_rfl) e5) ?_
 replace hF := obind_some hF; obtain ⟨t7, e6, hF⟩ := hF
 refine WL.b (some 7) (.int .i64 t7) h (len_row (P := Try.prog) (h := h) (t := 57) (e' := 5) (by kernel_rfl) e6) ?_
 refine WL.a (some 2) (.int .i64 t7) h ?_
 refine WL.n ?_
 refine Go.weaken (l' := [(2, .int .i64 t7)]) (Fr.c Fr.n) ?_
 refine n2 ?_
 refine W.ret (by kernel_rfl) ?_
 obtain ⟨hF, hF2⟩ := ret_inj hF; subst hF; subst hF2
 exact leave_of (rs := [.tmp 2]) (vs := [.int .i64 t7]) (by kernel_rfl) (res_tmp (by kernel_rfl) res_nil) (by kernel_rfl)
noncomputable def strings_Builder_Len_fn (call : CallF) (n : Nat) : FnT := fun args h => match args with
 | [x0] => strings_Builder_Len call n x0 h
 | _ => none
set_option maxRecDepth 100000 in
theorem strings_Builder_Len_fn_eq (call : CallF) (n : Nat) (t0 : AV) (h : AHeap) : strings_Builder_Len_fn call n [t0] h = strings_Builder_Len call n t0 h :=
 rfl
theorem strings_Builder_Len_holds {call : CallF} (hc : SaysAll Try.prog call) (n : Nat) : Holds Try.prog 48 (strings_Builder_Len_fn call n) := by
 intro args h r h2 e
 unfold strings_Builder_Len_fn at e
 split at e
 ·exact strings_Builder_Len_ok hc e
 ·cases e

noncomputable def strings_Builder_String (_ : CallF) (_ : Nat) (t0 : AV) (h : AHeap) : R :=
 obind (nilC t0) fun t4 =>
 obind (fldP 1 t4) fun t5 =>
 obind (ldCell h t5) fun v6 =>
 obind (nilC t0) fun t9 =>
 obind (fldP 1 t9) fun t10 =>
 obind (ldCell h t10) fun v11 =>
 obind (lenL v11) fun t12 =>
 outK (opSliceData h v6) fun v7 h_10 =>
 chk (reLoad Try.prog h_10 57 t10 v11 && (true && true)) <|
 outK (opUnsafeStr Try.prog h_10 78 v7 (.int .i64 t12)) fun v13 h_13 =>
 obind (avStr v13) fun t13 =>
 some (.ret (strA t13), h_13)
set_option maxHeartbeats 4000000 in
set_option maxRecDepth 20000 in
theorem strings_Builder_String_ok {call : CallF} (hc : SaysAll Try.prog call) {n : Nat} {t0 : AV} {h : AHeap} {rR : ARes} {hR : AHeap} (hF : strings_Builder_String call n t0 h = some (rR, hR)) : Says Try.prog 52 [t0] h rR hR := by
 unfold strings_Builder_String at hF
 refine says_of (fn := Try.f52) Try.func52 (c := codeOf Try.f52) (by kernel_rfl) (by kernel_rfl) (fun w0 m0 => ?_)
 refine W.weaken (l' := [(0, t0)]) (Fr.c Fr.n) ?_
 refine W.s (fun K1 n1 e1 q1 p1 => ?_)
 refine W.r ?_
 refine WL.a (some 2) (strA ([] : Bytes)) h ?_
 refine WL.n ?_
 refine Go.weaken (l' := [(0, t0)]) (Fr.c Fr.n) ?_
 refine n1 ?_
 refine W.s (fun K2 n2 e2 q2 p2 => ?_)
 refine W.draw (by kernel_rfl) (hc.ok w0) (plan := [0, 1, 2, 3, 5, 6, 7, 8, 9, 4, 10, 11]) (by kernel_rfl) (by kernel_rfl) (by kernel_rfl) ?_
 refine WD.a 0 (some 3) t0 h ?_
 replace hF := obind_some hF; obtain ⟨t4, e3, hF⟩ := hF
 refine WD.b 0 (some 4) t4 h (nil_chk (h := h) e3) ?_
 replace hF := obind_some hF; obtain ⟨t5, e4, hF⟩ := hF
 refine WD.b 0 (some 5) t5 h (field_ptr (P := Try.prog) (h := h) (s := 70) (f := 1) (by kernel_rfl) e4) ?_
 replace hF := obind_some hF; obtain ⟨v6, e5, hF⟩ := hF
 refine WD.b 1 (some 6) v6 h (load_cell (P := Try.prog) (h := h) (t := 57) (by kernel_rfl) e5) ?_
 refine WD.a 0 (some 8) t0 h ?_
 replace hF := obind_some hF; obtain ⟨t9, e6, hF⟩ := hF
 refine WD.b 0 (some 9) t9 h (nil_chk (h := h) e6) ?_
 replace hF := obind_some hF; obtain ⟨t10, e7, hF⟩ := hF
 refine WD.b 0 (some 10) t10 h (field_ptr (P := Try.prog) (h := h) (s := 70) (f := 1) (by kernel_rfl) e7) ?_
 replace hF := obind_some hF; obtain ⟨v11, e8, hF⟩ := hF
 refine WD.b 1 (some 11) v11 h (load_cell (P := Try.prog) (h := h) (t := 57) (by kernel_rfl) e8) ?_
 replace hF := obind_some hF; obtain ⟨t12, e9, hF⟩ := hF
 refine WD.b 0 (some 12) (.int .i64 t12) h (len_row (P := Try.prog) (h := h) (t := 57) (e' := 5) (by kernel_rfl) e9) ?_
 replace hF := outK_some hF; obtain ⟨v7, h_10, e11, hF⟩ := hF
 replace hF := chk_some hF; obtain ⟨k12, hF⟩ := hF
 refine WD.val (d := (some 7)) (v := v7) (h' := h_10) (by kernel_rfl) (by kernel_rfl) (Eq.trans (by kernel_rfl) e11) (k := 2) (by kernel_rfl) (fun _ => (Eq.trans (by kernel_rfl) k12)) (by decide) ?_
 replace hF := outK_some hF; obtain ⟨v13, h_13, e14, hF⟩ := hF
 replace hF := obind_some hF; obtain ⟨t13, c15, hF⟩ := hF
 have c15 := avStr_some c15
 subst c15
 refine WD.val (d := (some 13)) (v := strA t13) (h' := h_13) (by kernel_rfl) (by kernel_rfl) (Eq.trans (by kernel_rfl) e14) (k := 2) (by kernel_rfl) (fun _ => (by kernel_rfl)) (by decide) ?_
 refine WD.a 0 (some 2) (strA t13) h_13 ?_
 refine WD.nil ?_
 refine Go.weaken (l' := [(2, strA t13)]) (Fr.c Fr.n) ?_
 refine n2 ?_
 refine W.ret (by kernel_rfl) ?_
 obtain ⟨hF, hF2⟩ := ret_inj hF; subst hF; subst hF2
 exact leave_of (rs := [.tmp 2]) (vs := [strA t13]) (by kernel_rfl) (res_tmp (by kernel_rfl) res_nil) (by kernel_rfl)
noncomputable def strings_Builder_String_fn (call : CallF) (n : Nat) : FnT := fun args h => match args with
 | [x0] => strings_Builder_String call n x0 h
 | _ => none
set_option maxRecDepth 100000 in
theorem strings_Builder_String_fn_eq (call : CallF) (n : Nat) (t0 : AV) (h : AHeap) : strings_Builder_String_fn call n [t0] h = strings_Builder_String call n t0 h :=
 rfl
theorem strings_Builder_String_holds {call : CallF} (hc : SaysAll Try.prog call) (n : Nat) : Holds Try.prog 52 (strings_Builder_String_fn call n) := by
 intro args h r h2 e
 unfold strings_Builder_String_fn at e
 split at e
 ·exact strings_Builder_String_ok hc e
 ·cases e

noncomputable def strings_Builder_copyCheck (_ : CallF) (_ : Nat) (t0 : AV) (h : AHeap) : R :=
 obind (nilC t0) fun t3 =>
 obind (fldP 0 t3) fun t4 =>
 obind (ldCell h t4) fun v5 =>
 outK (opBin Try.prog h .eql 68 true (some v5) (some AV.nilp)) fun v6 h_5 =>
 obind (avBool v6) fun t6 =>
 lett (fun  (h_9 : AHeap) =>
  some (.ret (.tup []), h_9)) fun k8 =>
 ifB t6
 (
  outK (opConv Try.prog h_5 68 79 (some t0)) fun v9 h_10 =>
  outK (externA Try.prog h_10 60 [v9]) fun v10 h_14 =>
  outK (opConv Try.prog h_14 79 68 (some v10)) fun v11 h_16 =>
  obind (nilC t0) fun t12 =>
  obind (fldP 0 t12) fun t13 =>
  obind (stRow h_16 1 (AV.cells v11) t13) fun h_20 =>
  k8 h_20)
 (
  obind (nilC t0) fun t15 =>
  obind (fldP 0 t15) fun t16 =>
  obind (ldCell h_5 t16) fun v17 =>
  outK (opBinV Try.prog h_5 .neq 68 false (some v17) (some t0)) fun v19 h_26 =>
  obind (avBool v19) fun t19 =>
  ifB t19
  (
   none)
  (
   k8 h_26))
set_option maxHeartbeats 4000000 in
set_option maxRecDepth 20000 in
theorem strings_Builder_copyCheck_ok {call : CallF} (_ : SaysAll Try.prog call) {n : Nat} {t0 : AV} {h : AHeap} {rR : ARes} {hR : AHeap} (hF : strings_Builder_copyCheck call n t0 h = some (rR, hR)) : Says Try.prog 54 [t0] h rR hR := by
 unfold strings_Builder_copyCheck at hF
 refine says_of (fn := Try.f54) Try.func54 (c := codeOf Try.f54) (by kernel_rfl) (by kernel_rfl) (fun w0 m0 => ?_)
 refine W.weaken (l' := [(0, t0)]) (Fr.c Fr.n) ?_
 refine W.s (fun K1 n1 e1 q1 p1 => ?_)
 refine W.r ?_
 refine WL.a (some 2) t0 h ?_
 replace hF := obind_some hF; obtain ⟨t3, e2, hF⟩ := hF
 refine WL.b (some 3) t3 h (nil_chk (h := h) e2) ?_
 replace hF := obind_some hF; obtain ⟨t4, e3, hF⟩ := hF
 refine WL.b (some 4) t4 h (field_ptr (P := Try.prog) (h := h) (s := 70) (f := 0) (by kernel_rfl) e3) ?_
 replace hF := obind_some hF; obtain ⟨v5, e4, hF⟩ := hF
 refine WL.b (some 5) v5 h (load_cell (P := Try.prog) (h := h) (t := 68) (by kernel_rfl) e4) ?_
 replace hF := outK_some hF; obtain ⟨v6, h_5, e6, hF⟩ := hF
 replace hF := obind_some hF; obtain ⟨t6, c7, hF⟩ := hF
 have c7 := avBool_some c7
 subst c7
 refine WL.b (some 6) (.bool t6) h_5 e6 ?_
 refine WL.n ?_
 refine Go.weaken (l' := [(0, t0), (6, .bool t6)]) (Fr.c (Fr.c Fr.n)) ?_
 refine n1 ?_
 replace hF := lett_some hF; obtain ⟨k8, e8, hF⟩ := hF
 have J8 : ∀  (h_9 : AHeap), k8 h_9 = some (rR, hR) → Go w0 m0 (Func.ntmps Try.f54) (Fin Try.prog Try.f54 w0 m0 rR hR .normal) [] [] h_9 := by
  intro  h_9 hF
  rw [e8] at hF
  obtain ⟨hF, hF2⟩ := ret_inj hF; subst hF; subst hF2
  exact leaveN_of (rs := []) (vs := []) (by kernel_rfl) res_nil (by kernel_rfl)
 cases t6 with
 | true =>
  replace hF := ifB_t hF
  refine W.t ?_
  refine W.r ?_
  refine WL.a (some 7) t0 h_5 ?_
  refine WL.a (some 8) t0 h_5 ?_
  replace hF := outK_some hF; obtain ⟨v9, h_10, e11, hF⟩ := hF
  refine WL.b (some 9) v9 h_10 e11 ?_
  replace hF := outK_some hF; obtain ⟨v10, h_14, e15, hF⟩ := hF
  refine WL.b (some 10) v10 h_14 e15 ?_
  replace hF := outK_some hF; obtain ⟨v11, h_16, e17, hF⟩ := hF
  refine WL.b (some 11) v11 h_16 e17 ?_
  replace hF := obind_some hF; obtain ⟨t12, e18, hF⟩ := hF
  refine WL.b (some 12) t12 h_16 (nil_chk (h := h_16) e18) ?_
  replace hF := obind_some hF; obtain ⟨t13, e19, hF⟩ := hF
  refine WL.b (some 13) t13 h_16 (field_ptr (P := Try.prog) (h := h_16) (s := 70) (f := 0) (by kernel_rfl) e19) ?_
  replace hF := obind_some hF; obtain ⟨h_20, e21, hF⟩ := hF
  refine WL.e h_20 (store_row (P := Try.prog) (h := h_16) (t := 68) (v := v11) (by kernel_rfl) (by kernel_rfl) e21) ?_
  refine WL.n ?_
  refine Go.weaken (l' := []) Fr.n ?_
  exact Go.weaken Fr.n (J8 _ hF)
 | false =>
  replace hF := ifB_f hF
  refine W.f ?_
  refine W.s (fun K22 n22 e22 q22 p22 => ?_)
  refine W.r ?_
  refine WL.a (some 14) t0 h_5 ?_
  replace hF := obind_some hF; obtain ⟨t15, e23, hF⟩ := hF
  refine WL.b (some 15) t15 h_5 (nil_chk (h := h_5) e23) ?_
  replace hF := obind_some hF; obtain ⟨t16, e24, hF⟩ := hF
  refine WL.b (some 16) t16 h_5 (field_ptr (P := Try.prog) (h := h_5) (s := 70) (f := 0) (by kernel_rfl) e24) ?_
  replace hF := obind_some hF; obtain ⟨v17, e25, hF⟩ := hF
  refine WL.b (some 17) v17 h_5 (load_cell (P := Try.prog) (h := h_5) (t := 68) (by kernel_rfl) e25) ?_
  refine WL.a (some 18) t0 h_5 ?_
  replace hF := outK_some hF; obtain ⟨v19, h_26, e27, hF⟩ := hF
  replace hF := obind_some hF; obtain ⟨t19, c28, hF⟩ := hF
  have c28 := avBool_some c28
  subst c28
  refine WL.b (some 19) (.bool t19) h_26 e27 ?_
  refine WL.n ?_
  refine Go.weaken (l' := [(19, .bool t19)]) (Fr.c Fr.n) ?_
  refine n22 ?_
  cases t19 with
  | true =>
   replace hF := ifB_t hF
   refine W.t ?_
   cases hF
  | false =>
   replace hF := ifB_f hF
   refine W.f ?_
   refine W.skip (by kernel_rfl) ?_
   exact Go.weaken Fr.n (J8 _ hF)
noncomputable def strings_Builder_copyCheck_fn (call : CallF) (n : Nat) : FnT := fun args h => match args with
 | [x0] => strings_Builder_copyCheck call n x0 h
 | _ => none
set_option maxRecDepth 100000 in
theorem strings_Builder_copyCheck_fn_eq (call : CallF) (n : Nat) (t0 : AV) (h : AHeap) : strings_Builder_copyCheck_fn call n [t0] h = strings_Builder_copyCheck call n t0 h :=
 rfl
theorem strings_Builder_copyCheck_holds {call : CallF} (hc : SaysAll Try.prog call) (n : Nat) : Holds Try.prog 54 (strings_Builder_copyCheck_fn call n) := by
 intro args h r h2 e
 unfold strings_Builder_copyCheck_fn at e
 split at e
 ·exact strings_Builder_copyCheck_ok hc e
 ·cases e

end Go.Proofs.Ytjopejiooipmkaa

namespace Go.Proofs.Ytjopejiooipmkaa
open Go.RowKit Abs

noncomputable def ref09_byteAt_L1b (t0 : Bytes) (t1 : Int) (t18 : Bytes) (k25 : Int → AHeap → R) (self : Int → AHeap → R) (t10_42 : Int) (h_43 : AHeap) : R :=
 lett (fun (t41 : Bool) (h_47 : AHeap) =>
  ifB t41
  (
   lett (IntKind.i64.wrap (t10_42 + 1)) fun (t43 : Int) =>
   self t43 h_47)
  (
   k25 t10_42 h_47)) fun k46 =>
 lett (decide (t10_42 < (lenS t18))) fun (t22 : Bool) =>
 ifB t22
 (
  lett (IntKind.i64.wrap (t1 + t10_42)) fun (t26 : Int) =>
  lett (decide (t26 < (lenS t0))) fun (t29 : Bool) =>
  ifB t29
  (
   lett (IntKind.i64.wrap (t1 + t10_42)) fun (t35 : Int) =>
   obind (idxS t0 t35) fun t36 =>
   obind (idxS t18 t10_42) fun t39 =>
   lett ((t36 : Int) == t39) fun (t40 : Bool) =>
   k46 t40 h_43)
  (
   k46 false h_43))
 (
  k46 false h_43)
noncomputable def ref09_byteAt_L1 (t0 : Bytes) (t1 : Int) (t18 : Bytes) (k25 : Int → AHeap → R) : Nat → Int → AHeap → R := iterR (fun _ _ => none) (ref09_byteAt_L1b t0 t1 t18 k25)
theorem ref09_byteAt_L1_s (t0 : Bytes) (t1 : Int) (t18 : Bytes) (k25 : Int → AHeap → R) (m : Nat) : ref09_byteAt_L1 t0 t1 t18 k25 (m + 1) = ref09_byteAt_L1b t0 t1 t18 k25 (ref09_byteAt_L1 t0 t1 t18 k25 m) := rfl
noncomputable def ref09_byteAt_L0b (call : CallF) (n : Nat) (t0 : Bytes) (t1 : Int) (k6 : Int → AHeap → R) (self : Int → Int → AHeap → R) (t7_10 : Int) (t8 : Int) (h_11 : AHeap) : R :=
 lett (decide (t8 < 256)) fun (t13 : Bool) =>
 ifB t13
 (
  lett (IntKind.u8.wrap t8) fun (t17 : Int) =>
  callN (call 40 [.int .u8 t17] h_11) fun r18 h_19 =>
  obind (avStr r18) fun t18 =>
  lett (fun (t10 : Int) (h_26 : AHeap) =>
   lett ((t10 : Int) == (lenS t18)) fun (t47 : Bool) =>
   ifB t47
   (
    lett (IntKind.u8.wrap t8) fun (t49 : Int) =>
    lett (IntKind.i64.wrap (t1 + t10)) fun (t52 : Int) =>
    some (.ret (.tup [.int .u8 t49, .int .i64 t52, .bool true]), h_26))
   (
    lett (IntKind.i64.wrap (t1 + t10)) fun (t55 : Int) =>
    lett (decide (t55 > t7_10)) fun (t57 : Bool) =>
    lett (fun (t7_37 : Int) (h_38 : AHeap) =>
     lett (IntKind.i64.wrap (t8 + 1)) fun (t15 : Int) =>
     self t7_37 t15 h_38) fun k36 =>
    ifB t57
    (
     lett (IntKind.i64.wrap (t1 + t10)) fun (t60 : Int) =>
     k36 t60 h_26)
    (
     k36 t7_10 h_26))) fun k25 =>
  ref09_byteAt_L1 t0 t1 t18 k25 n 0 h_19)
 (
  k6 t7_10 h_11)
noncomputable def ref09_byteAt_L0 (call : CallF) (n : Nat) (t0 : Bytes) (t1 : Int) (k6 : Int → AHeap → R) : Nat → Int → Int → AHeap → R := iterR (fun _ _ _ => none) (ref09_byteAt_L0b call n t0 t1 k6)
theorem ref09_byteAt_L0_s (call : CallF) (n : Nat) (t0 : Bytes) (t1 : Int) (k6 : Int → AHeap → R) (m : Nat) : ref09_byteAt_L0 call n t0 t1 k6 (m + 1) = ref09_byteAt_L0b call n t0 t1 k6 (ref09_byteAt_L0 call n t0 t1 k6 m) := rfl
noncomputable def ref09_byteAt (call : CallF) (n : Nat) (t0 : Bytes) (t1 : Int) (h : AHeap) : R :=
 lett (fun (t7 : Int) (h_7 : AHeap) =>
  some (.ret (.tup [.int .u8 0, .int .i64 t7, .bool false]), h_7)) fun k6 =>
 ref09_byteAt_L0 call n t0 t1 k6 n t1 0 h
set_option maxHeartbeats 4000000 in
set_option maxRecDepth 20000 in
theorem ref09_byteAt_ok {call : CallF} (hc : SaysAll Try.prog call) {n : Nat} {t0 : Bytes} {t1 : Int} {h : AHeap} {rR : ARes} {hR : AHeap} (hF : ref09_byteAt call n t0 t1 h = some (rR, hR)) : Says Try.prog 35 [strA t0, .int .i64 t1] h rR hR := by
 unfold ref09_byteAt at hF
 refine says_of (fn := Try.f35) Try.func35 (c := codeOf Try.f35) (by kernel_rfl) (by kernel_rfl) (fun w0 m0 => ?_)
 refine W.weaken (l' := [(0, strA t0), (1, .int .i64 t1)]) (Fr.c (Fr.c Fr.n)) ?_
 refine W.s (fun K1 n1 e1 q1 p1 => ?_)
 refine W.r ?_
 refine WL.a (some 4) (.int .u8 0) h ?_
 refine WL.a (some 5) (.int .i64 0) h ?_
 refine WL.a (some 6) (.bool false) h ?_
 refine WL.n ?_
 refine Go.weaken (l' := [(0, strA t0), (1, .int .i64 t1)]) (Fr.c (Fr.c Fr.n)) ?_
 refine n1 ?_
 refine W.s (fun K2 n2 e2 q2 p2 => ?_)
 refine W.r ?_
 refine WL.a (some 11) (.int .i64 t1) h ?_
 refine WL.a (some 7) (.int .i64 t1) h ?_
 refine WL.n ?_
 refine Go.weaken (l' := [(0, strA t0), (1, .int .i64 t1), (7, .int .i64 t1)]) (Fr.c (Fr.c (Fr.c Fr.n))) ?_
 refine n2 ?_
 refine W.s (fun K3 n3 e3 q3 p3 => ?_)
 refine W.s (fun K4 n4 e4 q4 p4 => ?_)
 refine W.r ?_
 refine WL.a (some 8) (.int .i64 0) h ?_
 refine WL.n ?_
 refine Go.weaken (l' := [(0, strA t0), (1, .int .i64 t1), (7, .int .i64 t1), (8, .int .i64 0)]) (Fr.c (Fr.c (Fr.c (Fr.c Fr.n)))) ?_
 refine n4 ?_
 replace hF := lett_some hF; obtain ⟨k6, e6, hF⟩ := hF
 have J6 : ∀ (t7 : Int) (h_7 : AHeap), k6 t7 h_7 = some (rR, hR) → Go w0 m0 (Func.ntmps Try.f35) (K3 .normal) [(7, .int .i64 t7)] [] h_7 := by
  intro t7 h_7 hF
  rw [e6] at hF
  refine n3 ?_
  refine W.s (fun K8 n8 e8 q8 p8 => ?_)
  refine W.r ?_
  refine WL.a (some 61) (.int .i64 t7) h_7 ?_
  refine WL.a (some 4) (.int .u8 0) h_7 ?_
  refine WL.a (some 5) (.int .i64 t7) h_7 ?_
  refine WL.a (some 6) (.bool false) h_7 ?_
  refine WL.n ?_
  refine Go.weaken (l' := [(4, .int .u8 0), (5, .int .i64 t7), (6, .bool false)]) (Fr.c (Fr.c (Fr.c Fr.n))) ?_
  refine n8 ?_
  refine W.ret (by kernel_rfl) ?_
  obtain ⟨hF, hF2⟩ := ret_inj hF; subst hF; subst hF2
  exact leave_of (rs := [.tmp 4, .tmp 5, .tmp 6]) (vs := [.int .u8 0, .int .i64 t7, .bool false]) (by kernel_rfl) (res_tmp (by kernel_rfl) (res_tmp (by kernel_rfl) (res_tmp (by kernel_rfl) res_nil))) (by kernel_rfl)
 refine W.blockK (by kernel_rfl) (fun K5 n5 s5 o5 q5 p5 => ?_)
 refine W.loopK (by kernel_rfl) (fun I9 K9 b9 n9 e9 q9 p9 => ?_)
 have L9 : ∀ (m : Nat) (t7_10 : Int) (t8 : Int) (h_11 : AHeap), ref09_byteAt_L0 call n t0 t1 k6 m t7_10 t8 h_11 = some (rR, hR) → Go w0 m0 (Func.ntmps Try.f35) I9 [(0, strA t0), (1, .int .i64 t1), (7, .int .i64 t7_10), (8, .int .i64 t8)] [] h_11 := by
  intro m
  induction m with
  | zero => intro t7_10 t8 h_11 hF; cases hF
  | succ m ih9 =>
   intro t7_10 t8 h_11 hF
   rw [ref09_byteAt_L0_s] at hF; unfold ref09_byteAt_L0b at hF
   refine b9 ?_
   refine W.s (fun K12 n12 e12 q12 p12 => ?_)
   refine W.s (fun K13 n13 e13 q13 p13 => ?_)
   refine W.r ?_
   refine WL.a (some 12) (.int .i64 t8) h_11 ?_
   replace hF := lett_some hF; obtain ⟨t13, e14, hF⟩ := hF
   refine WL.val (d := (some 13)) (v := .bool t13) (h' := h_11) (by kernel_rfl) (by kernel_rfl) (val_of AV.bool e14 (by kernel_rfl)) ?_
   refine WL.n ?_
   refine Go.weaken (l' := [(0, strA t0), (1, .int .i64 t1), (7, .int .i64 t7_10), (8, .int .i64 t8), (13, .bool t13)]) (Fr.c (Fr.c (Fr.c (Fr.c (Fr.c Fr.n))))) ?_
   refine n13 ?_
   cases t13 with
   | true =>
    replace hF := ifB_t hF
    refine W.t ?_
    refine W.skip (by kernel_rfl) ?_
    refine n12 ?_
    refine W.s (fun K15 n15 e15 q15 p15 => ?_)
    refine W.blockK (by kernel_rfl) (fun K16 n16 s16 o16 q16 p16 => ?_)
    refine W.s (fun K17 n17 e17 q17 p17 => ?_)
    refine W.r ?_
    refine WL.a (some 16) (.int .i64 t8) h_11 ?_
    replace hF := lett_some hF; obtain ⟨t17, e18, hF⟩ := hF
    refine WL.val (d := (some 17)) (v := .int .u8 t17) (h' := h_11) (by kernel_rfl) (by kernel_rfl) (val_of (AV.int .u8) e18 (by kernel_rfl)) ?_
    replace hF := callN_some hF; obtain ⟨r18, h_19, e20, hF⟩ := hF
    replace hF := obind_some hF; obtain ⟨t18, c21, hF⟩ := hF
    have c21 := avStr_some c21
    subst c21
    refine WL.c (hc.ok w0) (some 18) e20 ?_
    refine WL.a (some 9) (strA t18) h_19 ?_
    refine WL.n ?_
    refine Go.weaken (l' := [(0, strA t0), (1, .int .i64 t1), (7, .int .i64 t7_10), (8, .int .i64 t8), (9, strA t18)]) (Fr.c (Fr.c (Fr.c (Fr.c (Fr.c Fr.n))))) ?_
    refine n17 ?_
    refine W.s (fun K22 n22 e22 q22 p22 => ?_)
    refine W.r ?_
    refine WL.a (some 10) (.int .i64 0) h_19 ?_
    refine WL.n ?_
    refine Go.weaken (l' := [(0, strA t0), (1, .int .i64 t1), (7, .int .i64 t7_10), (8, .int .i64 t8), (9, strA t18), (10, .int .i64 0)]) (Fr.c (Fr.c (Fr.c (Fr.c (Fr.c (Fr.c Fr.n)))))) ?_
    refine n22 ?_
    refine W.s (fun K23 n23 e23 q23 p23 => ?_)
    replace hF := lett_some hF; obtain ⟨k25, e25, hF⟩ := hF
    have J25 : ∀ (t10 : Int) (h_26 : AHeap), k25 t10 h_26 = some (rR, hR) → Go w0 m0 (Func.ntmps Try.f35) (K23 .normal) [(0, strA t0), (1, .int .i64 t1), (7, .int .i64 t7_10), (8, .int .i64 t8), (9, strA t18), (10, .int .i64 t10)] [] h_26 := by
     intro t10 h_26 hF
     rw [e25] at hF
     refine n23 ?_
     refine W.s (fun K27 n27 e27 q27 p27 => ?_)
     refine W.s (fun K28 n28 e28 q28 p28 => ?_)
     refine W.r ?_
     refine WL.a (some 44) (.int .i64 t10) h_26 ?_
     refine WL.a (some 45) (strA t18) h_26 ?_
     refine WL.a (some 46) (.int .i64 (lenS t18)) h_26 ?_
     replace hF := lett_some hF; obtain ⟨t47, e29, hF⟩ := hF
     refine WL.val (d := (some 47)) (v := .bool t47) (h' := h_26) (by kernel_rfl) (by kernel_rfl) (val_of AV.bool e29 (by kernel_rfl)) ?_
     refine WL.n ?_
     refine Go.weaken (l' := [(0, strA t0), (1, .int .i64 t1), (7, .int .i64 t7_10), (8, .int .i64 t8), (10, .int .i64 t10), (47, .bool t47)]) (Fr.c (Fr.c (Fr.c (Fr.c (Fr.c (Fr.c Fr.n)))))) ?_
     refine n28 ?_
     cases t47 with
     | true =>
      replace hF := ifB_t hF
      refine W.t ?_
      refine W.s (fun K30 n30 e30 q30 p30 => ?_)
      refine W.r ?_
      refine WL.a (some 48) (.int .i64 t8) h_26 ?_
      replace hF := lett_some hF; obtain ⟨t49, e31, hF⟩ := hF
      refine WL.val (d := (some 49)) (v := .int .u8 t49) (h' := h_26) (by kernel_rfl) (by kernel_rfl) (val_of (AV.int .u8) e31 (by kernel_rfl)) ?_
      refine WL.a (some 50) (.int .i64 t1) h_26 ?_
      refine WL.a (some 51) (.int .i64 t10) h_26 ?_
      replace hF := lett_some hF; obtain ⟨t52, e32, hF⟩ := hF
      refine WL.val (d := (some 52)) (v := .int .i64 t52) (h' := h_26) (by kernel_rfl) (by kernel_rfl) (val_of (AV.int .i64) e32 (by kernel_rfl)) ?_
      refine WL.a (some 4) (.int .u8 t49) h_26 ?_
      refine WL.a (some 5) (.int .i64 t52) h_26 ?_
      refine WL.a (some 6) (.bool true) h_26 ?_
      refine WL.n ?_
      refine Go.weaken (l' := [(4, .int .u8 t49), (5, .int .i64 t52), (6, .bool true)]) (Fr.c (Fr.c (Fr.c Fr.n))) ?_
      refine n30 ?_
      refine W.ret (by kernel_rfl) ?_
      refine q27 ?_
      refine q16 ?_
      refine q15 ?_
      refine q9 ?_
      refine q5 ?_
      refine q3 ?_
      obtain ⟨hF, hF2⟩ := ret_inj hF; subst hF; subst hF2
      exact leave_of (rs := [.tmp 4, .tmp 5, .tmp 6]) (vs := [.int .u8 t49, .int .i64 t52, .bool true]) (by kernel_rfl) (res_tmp (by kernel_rfl) (res_tmp (by kernel_rfl) (res_tmp (by kernel_rfl) res_nil))) (by kernel_rfl)
     | false =>
      replace hF := ifB_f hF
      refine W.f ?_
      refine W.skip (by kernel_rfl) ?_
      refine n27 ?_
      refine W.s (fun K33 n33 e33 q33 p33 => ?_)
      refine W.r ?_
      refine WL.a (some 53) (.int .i64 t1) h_26 ?_
      refine WL.a (some 54) (.int .i64 t10) h_26 ?_
      replace hF := lett_some hF; obtain ⟨t55, e34, hF⟩ := hF
      refine WL.val (d := (some 55)) (v := .int .i64 t55) (h' := h_26) (by kernel_rfl) (by kernel_rfl) (val_of (AV.int .i64) e34 (by kernel_rfl)) ?_
      refine WL.a (some 56) (.int .i64 t7_10) h_26 ?_
      replace hF := lett_some hF; obtain ⟨t57, e35, hF⟩ := hF
      refine WL.val (d := (some 57)) (v := .bool t57) (h' := h_26) (by kernel_rfl) (by kernel_rfl) (val_of AV.bool e35 (by kernel_rfl)) ?_
      refine WL.n ?_
      refine Go.weaken (l' := [(0, strA t0), (1, .int .i64 t1), (7, .int .i64 t7_10), (8, .int .i64 t8), (10, .int .i64 t10), (57, .bool t57)]) (Fr.c (Fr.c (Fr.c (Fr.c (Fr.c (Fr.c Fr.n)))))) ?_
      refine n33 ?_
      replace hF := lett_some hF; obtain ⟨k36, e36, hF⟩ := hF
      have J36 : ∀ (t7_37 : Int) (h_38 : AHeap), k36 t7_37 h_38 = some (rR, hR) → Go w0 m0 (Func.ntmps Try.f35) (K16 .normal) [(0, strA t0), (1, .int .i64 t1), (7, .int .i64 t7_37), (8, .int .i64 t8)] [] h_38 := by
       intro t7_37 h_38 hF
       rw [e36] at hF
       refine n16 ?_
       refine n15 ?_
       refine W.r ?_
       refine WL.a (some 14) (.int .i64 t8) h_38 ?_
       replace hF := lett_some hF; obtain ⟨t15, e39, hF⟩ := hF
       refine WL.val (d := (some 15)) (v := .int .i64 t15) (h' := h_38) (by kernel_rfl) (by kernel_rfl) (val_of (AV.int .i64) e39 (by kernel_rfl)) ?_
       refine WL.a (some 8) (.int .i64 t15) h_38 ?_
       refine WL.n ?_
       refine Go.weaken (l' := [(0, strA t0), (1, .int .i64 t1), (7, .int .i64 t7_37), (8, .int .i64 t15)]) (Fr.c (Fr.c (Fr.c (Fr.c Fr.n)))) ?_
       refine n9 ?_
       exact Go.weaken (Fr.c (Fr.c (Fr.c (Fr.c Fr.n)))) (ih9 _ _ _ hF)
      cases t57 with
      | true =>
       replace hF := ifB_t hF
       refine W.t ?_
       refine W.r ?_
       refine WL.a (some 58) (.int .i64 t1) h_26 ?_
       refine WL.a (some 59) (.int .i64 t10) h_26 ?_
       replace hF := lett_some hF; obtain ⟨t60, e40, hF⟩ := hF
       refine WL.val (d := (some 60)) (v := .int .i64 t60) (h' := h_26) (by kernel_rfl) (by kernel_rfl) (val_of (AV.int .i64) e40 (by kernel_rfl)) ?_
       refine WL.a (some 7) (.int .i64 t60) h_26 ?_
       refine WL.n ?_
       refine Go.weaken (l' := [(0, strA t0), (1, .int .i64 t1), (7, .int .i64 t60), (8, .int .i64 t8)]) (Fr.c (Fr.c (Fr.c (Fr.c Fr.n)))) ?_
       exact Go.weaken (Fr.c (Fr.c (Fr.c (Fr.c Fr.n)))) (J36 _ _ hF)
      | false =>
       replace hF := ifB_f hF
       refine W.f ?_
       refine W.skip (by kernel_rfl) ?_
       exact Go.weaken (Fr.c (Fr.c (Fr.c (Fr.c Fr.n)))) (J36 _ _ hF)
    refine W.blockK (by kernel_rfl) (fun K24 n24 s24 o24 q24 p24 => ?_)
    refine W.loopK (by kernel_rfl) (fun I41 K41 b41 n41 e41 q41 p41 => ?_)
    have L41 : ∀ (m : Nat) (t10_42 : Int) (h_43 : AHeap), ref09_byteAt_L1 t0 t1 t18 k25 m t10_42 h_43 = some (rR, hR) → Go w0 m0 (Func.ntmps Try.f35) I41 [(0, strA t0), (1, .int .i64 t1), (7, .int .i64 t7_10), (8, .int .i64 t8), (9, strA t18), (10, .int .i64 t10_42)] [] h_43 := by
     intro m
     induction m with
     | zero => intro t10_42 h_43 hF; cases hF
     | succ m ih41 =>
      intro t10_42 h_43 hF
      rw [ref09_byteAt_L1_s] at hF; unfold ref09_byteAt_L1b at hF
      refine b41 ?_
      refine W.s (fun K44 n44 e44 q44 p44 => ?_)
      refine W.s (fun K45 n45 e45 q45 p45 => ?_)
      replace hF := lett_some hF; obtain ⟨k46, e46, hF⟩ := hF
      have J46 : ∀ (t41 : Bool) (h_47 : AHeap), k46 t41 h_47 = some (rR, hR) → Go w0 m0 (Func.ntmps Try.f35) (K45 .normal) [(0, strA t0), (1, .int .i64 t1), (7, .int .i64 t7_10), (8, .int .i64 t8), (9, strA t18), (10, .int .i64 t10_42), (41, .bool t41)] [] h_47 := by
       intro t41 h_47 hF
       rw [e46] at hF
       refine n45 ?_
       cases t41 with
       | true =>
        replace hF := ifB_t hF
        refine W.t ?_
        refine W.skip (by kernel_rfl) ?_
        refine n44 ?_
        refine W.blockK (by kernel_rfl) (fun K48 n48 s48 o48 q48 p48 => ?_)
        refine W.r ?_
        refine WL.a (some 42) (.int .i64 t10_42) h_47 ?_
        replace hF := lett_some hF; obtain ⟨t43, e49, hF⟩ := hF
        refine WL.val (d := (some 43)) (v := .int .i64 t43) (h' := h_47) (by kernel_rfl) (by kernel_rfl) (val_of (AV.int .i64) e49 (by kernel_rfl)) ?_
        refine WL.a (some 10) (.int .i64 t43) h_47 ?_
        refine WL.n ?_
        refine Go.weaken (l' := [(0, strA t0), (1, .int .i64 t1), (7, .int .i64 t7_10), (8, .int .i64 t8), (9, strA t18), (10, .int .i64 t43)]) (Fr.c (Fr.c (Fr.c (Fr.c (Fr.c (Fr.c Fr.n)))))) ?_
        refine n48 ?_
        refine n41 ?_
        exact Go.weaken (Fr.c (Fr.c (Fr.c (Fr.c (Fr.c (Fr.c Fr.n)))))) (ih41 _ _ hF)
       | false =>
        replace hF := ifB_f hF
        refine W.f ?_
        refine W.exit (by kernel_rfl) ?_
        refine e44 ?_
        refine e41 ?_
        refine s24 (by kernel_rfl) ?_
        exact Go.weaken (Fr.c (Fr.c (Fr.c (Fr.c (Fr.c (Fr.c Fr.n)))))) (J25 _ _ hF)
      refine W.draw (by kernel_rfl) (hc.ok w0) (plan := [0, 1, 2, 3, 4, 5, 6, 7, 8, 9, 10, 11, 12, 13, 14, 15, 16, 17, 18, 19, 20, 21, 22]) (by kernel_rfl) (by kernel_rfl) (by kernel_rfl) ?_
      refine WD.a 0 (some 19) (.int .i64 t10_42) h_43 ?_
      refine WD.a 0 (some 20) (strA t18) h_43 ?_
      refine WD.a 0 (some 21) (.int .i64 (lenS t18)) h_43 ?_
      replace hF := lett_some hF; obtain ⟨t22, e50, hF⟩ := hF
      refine WD.val (d := (some 22)) (v := .bool t22) (h' := h_43) (by kernel_rfl) (by kernel_rfl) (val_of AV.bool e50 (by kernel_rfl)) (k := 0) (by kernel_rfl) (fun e => absurd e (by decide)) (by decide) ?_
      refine WD.a 0 (some 23) (.bool t22) h_43 ?_
      cases t22 with
      | true =>
       replace hF := ifB_t hF
       refine WD.a 0 (some 24) (.int .i64 t1) h_43 ?_
       refine WD.a 0 (some 25) (.int .i64 t10_42) h_43 ?_
       replace hF := lett_some hF; obtain ⟨t26, e51, hF⟩ := hF
       refine WD.val (d := (some 26)) (v := .int .i64 t26) (h' := h_43) (by kernel_rfl) (by kernel_rfl) (val_of (AV.int .i64) e51 (by kernel_rfl)) (k := 0) (by kernel_rfl) (fun e => absurd e (by decide)) (by decide) ?_
       refine WD.a 0 (some 27) (strA t0) h_43 ?_
       refine WD.a 0 (some 28) (.int .i64 (lenS t0)) h_43 ?_
       replace hF := lett_some hF; obtain ⟨t29, e52, hF⟩ := hF
       refine WD.val (d := (some 29)) (v := .bool t29) (h' := h_43) (by kernel_rfl) (by kernel_rfl) (val_of AV.bool e52 (by kernel_rfl)) (k := 0) (by kernel_rfl) (fun e => absurd e (by decide)) (by decide) ?_
       refine WD.a 0 (some 30) (.bool t29) h_43 ?_
       refine WD.a 0 (some 31) (.bool t29) h_43 ?_
       cases t29 with
       | true =>
        replace hF := ifB_t hF
        refine WD.a 0 (some 32) (strA t0) h_43 ?_
        refine WD.a 0 (some 33) (.int .i64 t1) h_43 ?_
        refine WD.a 0 (some 34) (.int .i64 t10_42) h_43 ?_
        replace hF := lett_some hF; obtain ⟨t35, e53, hF⟩ := hF
        refine WD.val (d := (some 35)) (v := .int .i64 t35) (h' := h_43) (by kernel_rfl) (by kernel_rfl) (val_of (AV.int .i64) e53 (by kernel_rfl)) (k := 0) (by kernel_rfl) (fun e => absurd e (by decide)) (by decide) ?_
        replace hF := obind_some hF; obtain ⟨t36, e54, hF⟩ := hF
        refine WD.b 0 (some 36) (.int .u8 t36) h_43 (index_str (P := Try.prog) (h := h_43) (t := 9) (k := .i64) (by kernel_rfl) e54) ?_
        refine WD.a 0 (some 37) (strA t18) h_43 ?_
        refine WD.a 0 (some 38) (.int .i64 t10_42) h_43 ?_
        replace hF := obind_some hF; obtain ⟨t39, e55, hF⟩ := hF
        refine WD.b 0 (some 39) (.int .u8 t39) h_43 (index_str (P := Try.prog) (h := h_43) (t := 9) (k := .i64) (by kernel_rfl) e55) ?_
        replace hF := lett_some hF; obtain ⟨t40, e56, hF⟩ := hF
        refine WD.val (d := (some 40)) (v := .bool t40) (h' := h_43) (by kernel_rfl) (by kernel_rfl) (val_of AV.bool e56 (by kernel_rfl)) (k := 0) (by kernel_rfl) (fun e => absurd e (by decide)) (by decide) ?_
        refine WD.a 0 (some 41) (.bool t40) h_43 ?_
        refine WD.nil ?_
        exact Go.weaken (Fr.c (Fr.c (Fr.c (Fr.c (Fr.c (Fr.c (Fr.c Fr.n))))))) (J46 _ _ hF)
       | false =>
        replace hF := ifB_f hF
        refine WD.not (d := (some 32)) (by kernel_rfl) (by kernel_rfl) (k := 0) (by kernel_rfl) (fun e => absurd e (by decide)) (by decide) ?_
        refine WD.not (d := (some 33)) (by kernel_rfl) (by kernel_rfl) (k := 0) (by kernel_rfl) (fun e => absurd e (by decide)) (by decide) ?_
        refine WD.not (d := (some 34)) (by kernel_rfl) (by kernel_rfl) (k := 0) (by kernel_rfl) (fun e => absurd e (by decide)) (by decide) ?_
        refine WD.not (d := (some 35)) (by kernel_rfl) (by kernel_rfl) (k := 0) (by kernel_rfl) (fun e => absurd e (by decide)) (by decide) ?_
        refine WD.not (d := (some 36)) (by kernel_rfl) (by kernel_rfl) (k := 0) (by kernel_rfl) (fun e => absurd e (by decide)) (by decide) ?_
        refine WD.not (d := (some 37)) (by kernel_rfl) (by kernel_rfl) (k := 0) (by kernel_rfl) (fun e => absurd e (by decide)) (by decide) ?_
        refine WD.not (d := (some 38)) (by kernel_rfl) (by kernel_rfl) (k := 0) (by kernel_rfl) (fun e => absurd e (by decide)) (by decide) ?_
        refine WD.not (d := (some 39)) (by kernel_rfl) (by kernel_rfl) (k := 0) (by kernel_rfl) (fun e => absurd e (by decide)) (by decide) ?_
        refine WD.not (d := (some 40)) (by kernel_rfl) (by kernel_rfl) (k := 0) (by kernel_rfl) (fun e => absurd e (by decide)) (by decide) ?_
        refine WD.a 0 (some 41) (.bool false) h_43 ?_
        refine WD.nil ?_
        exact Go.weaken (Fr.c (Fr.c (Fr.c (Fr.c (Fr.c (Fr.c (Fr.c Fr.n))))))) (J46 _ _ hF)
      | false =>
       replace hF := ifB_f hF
       refine WD.not (d := (some 24)) (by kernel_rfl) (by kernel_rfl) (k := 0) (by kernel_rfl) (fun e => absurd e (by decide)) (by decide) ?_
       refine WD.not (d := (some 25)) (by kernel_rfl) (by kernel_rfl) (k := 0) (by kernel_rfl) (fun e => absurd e (by decide)) (by decide) ?_
       refine WD.not (d := (some 26)) (by kernel_rfl) (by kernel_rfl) (k := 0) (by kernel_rfl) (fun e => absurd e (by decide)) (by decide) ?_
       refine WD.not (d := (some 27)) (by kernel_rfl) (by kernel_rfl) (k := 0) (by kernel_rfl) (fun e => absurd e (by decide)) (by decide) ?_
       refine WD.not (d := (some 28)) (by kernel_rfl) (by kernel_rfl) (k := 0) (by kernel_rfl) (fun e => absurd e (by decide)) (by decide) ?_
       refine WD.not (d := (some 29)) (by kernel_rfl) (by kernel_rfl) (k := 0) (by kernel_rfl) (fun e => absurd e (by decide)) (by decide) ?_
       refine WD.a 0 (some 30) (.bool false) h_43 ?_
       refine WD.a 0 (some 31) (.bool false) h_43 ?_
       refine WD.not (d := (some 32)) (by kernel_rfl) (by kernel_rfl) (k := 0) (by kernel_rfl) (fun e => absurd e (by decide)) (by decide) ?_
       refine WD.not (d := (some 33)) (by kernel_rfl) (by kernel_rfl) (k := 0) (by kernel_rfl) (fun e => absurd e (by decide)) (by decide) ?_
       refine WD.not (d := (some 34)) (by kernel_rfl) (by kernel_rfl) (k := 0) (by kernel_rfl) (fun e => absurd e (by decide)) (by decide) ?_
       refine WD.not (d := (some 35)) (by kernel_rfl) (by kernel_rfl) (k := 0) (by kernel_rfl) (fun e => absurd e (by decide)) (by decide) ?_
       refine WD.not (d := (some 36)) (by kernel_rfl) (by kernel_rfl) (k := 0) (by kernel_rfl) (fun e => absurd e (by decide)) (by decide) ?_
       refine WD.not (d := (some 37)) (by kernel_rfl) (by kernel_rfl) (k := 0) (by kernel_rfl) (fun e => absurd e (by decide)) (by decide) ?_
       refine WD.not (d := (some 38)) (by kernel_rfl) (by kernel_rfl) (k := 0) (by kernel_rfl) (fun e => absurd e (by decide)) (by decide) ?_
       refine WD.not (d := (some 39)) (by kernel_rfl) (by kernel_rfl) (k := 0) (by kernel_rfl) (fun e => absurd e (by decide)) (by decide) ?_
       refine WD.not (d := (some 40)) (by kernel_rfl) (by kernel_rfl) (k := 0) (by kernel_rfl) (fun e => absurd e (by decide)) (by decide) ?_
       refine WD.a 0 (some 41) (.bool false) h_43 ?_
       refine WD.nil ?_
       exact Go.weaken (Fr.c (Fr.c (Fr.c (Fr.c (Fr.c (Fr.c (Fr.c Fr.n))))))) (J46 _ _ hF)
    exact Go.weaken (Fr.c (Fr.c (Fr.c (Fr.c (Fr.c (Fr.c Fr.n)))))) (L41 _ _ _ hF)
   | false =>
    replace hF := ifB_f hF
    refine W.f ?_
    refine W.exit (by kernel_rfl) ?_
    refine e12 ?_
    refine e9 ?_
    refine s5 (by kernel_rfl) ?_
    exact Go.weaken (Fr.c Fr.n) (J6 _ _ hF)
 exact Go.weaken (Fr.c (Fr.c (Fr.c (Fr.c Fr.n)))) (L9 _ _ _ _ hF)
noncomputable def ref09_byteAt_fn (call : CallF) (n : Nat) : FnT := fun args h => match args with
 | [x0, x1] => obind (avStr x0) fun t0 => obind (avInt .i64 x1) fun t1 => ref09_byteAt call n t0 t1 h
 | _ => none
theorem ref09_byteAt_holds {call : CallF} (hc : SaysAll Try.prog call) (n : Nat) : Holds Try.prog 35 (ref09_byteAt_fn call n) := by
 intro args h r h2 e
 unfold ref09_byteAt_fn at e
 split at e
 ·replace e := obind_some e; obtain ⟨t0, c0, e⟩ := e; have c0 := avStr_some c0; subst c0
  replace e := obind_some e; obtain ⟨t1, c1, e⟩ := e; have c1 := avInt_some c1; subst c1
  exact ref09_byteAt_ok hc e
 ·cases e

noncomputable def ref09_Scan_L0b (call : CallF) (t0 : Bytes) (self : Int → AV → AV → AHeap → R) (t1_15 : Int) (t8 : AV) (t9 : AV) (h_16 : AHeap) : R :=
 outK (bldSl Try.prog h_16 51 1 [(0, .int .i64 t1_15)]) fun v28 h_19 =>
 outK (opAppend Try.prog h_19 51 51 t9 v28) fun v29 h_21 =>
 lett (decide (t1_15 < (lenS t0))) fun (t33 : Bool) =>
 lett (fun (t39 : Bool) (h_26 : AHeap) =>
  ifB t39
  (
   outK (opConv Try.prog h_26 57 9 (some t8)) fun v41 h_30 =>
   obind (avStr v41) fun t41 =>
   lett (IntKind.i64.wrap (t1_15 + 1)) fun (t44 : Int) =>
   some (.ret (.tup [strA t41, v29, .int .i64 t44, .bool true]), h_30))
  (
   callN (call 35 [strA t0, .int .i64 t1_15] h_26) fun r48 h_35 =>
   obind (extT 0 r48) fun v49 =>
   obind (avInt .u8 v49) fun t49 =>
   obind (extT 1 r48) fun v50 =>
   obind (avInt .i64 v50) fun t50 =>
   obind (extT 2 r48) fun v51 =>
   obind (avBool v51) fun t51 =>
   lett (!t51) fun (t53 : Bool) =>
   ifB t53
   (
    some (.ret (.tup [strA ([] : Bytes), AV.nsl, .int .i64 t50, .bool false]), h_35))
   (
    outK (bldSl Try.prog h_35 57 1 [(0, .int .u8 t49)]) fun v57 h_48 =>
    outK (opAppend Try.prog h_48 57 57 t8 v57) fun v58 h_50 =>
    self t50 v58 v29 h_50))) fun j39 =>
 ifB t33
 (
  obind (idxS t0 t1_15) fun t37 =>
  lett ((t37 : Int) == 34) fun (t38 : Bool) =>
  j39 t38 h_21)
 (
  j39 false h_21)
noncomputable def ref09_Scan_L0 (call : CallF) (t0 : Bytes) : Nat → Int → AV → AV → AHeap → R := iterR (fun _ _ _ _ => none) (ref09_Scan_L0b call t0)
theorem ref09_Scan_L0_s (call : CallF) (t0 : Bytes) (m : Nat) : ref09_Scan_L0 call t0 (m + 1) = ref09_Scan_L0b call t0 (ref09_Scan_L0 call t0 m) := rfl
noncomputable def ref09_Scan (call : CallF) (n : Nat) (t0 : Bytes) (t1 : Int) (h : AHeap) : R :=
 lett (decide (t1 ≥ (lenS t0))) fun (t16 : Bool) =>
 lett (fun (t22 : Bool) (h_5 : AHeap) =>
  ifB t22
  (
   some (.ret (.tup [strA ([] : Bytes), AV.nsl, .int .i64 t1, .bool false]), h_5))
  (
   lett (IntKind.i64.wrap (t1 + 1)) fun (t25 : Int) =>
   ref09_Scan_L0 call t0 n t25 AV.nsl AV.nsl h_5)) fun j22 =>
 ifB t16
 (
  j22 true h)
 (
  obind (idxS t0 t1) fun t20 =>
  lett ((t20 : Int) != 34) fun (t21 : Bool) =>
  j22 t21 h)
set_option maxHeartbeats 4000000 in
set_option maxRecDepth 20000 in
theorem ref09_Scan_ok {call : CallF} (hc : SaysAll Try.prog call) {n : Nat} {t0 : Bytes} {t1 : Int} {h : AHeap} {rR : ARes} {hR : AHeap} (hF : ref09_Scan call n t0 t1 h = some (rR, hR)) : Says Try.prog 34 [strA t0, .int .i64 t1] h rR hR := by
 unfold ref09_Scan at hF
 refine says_of (fn := Try.f34) Try.func34 (c := codeOf Try.f34) (by kernel_rfl) (by kernel_rfl) (fun w0 m0 => ?_)
 refine W.weaken (l' := [(0, strA t0), (1, .int .i64 t1)]) (Fr.c (Fr.c Fr.n)) ?_
 refine W.s (fun K1 n1 e1 q1 p1 => ?_)
 refine W.r ?_
 refine WL.a (some 4) (strA ([] : Bytes)) h ?_
 refine WL.a (some 5) AV.nsl h ?_
 refine WL.a (some 6) (.int .i64 0) h ?_
 refine WL.a (some 7) (.bool false) h ?_
 refine WL.n ?_
 refine Go.weaken (l' := [(0, strA t0), (1, .int .i64 t1)]) (Fr.c (Fr.c Fr.n)) ?_
 refine n1 ?_
 refine W.s (fun K2 n2 e2 q2 p2 => ?_)
 refine W.s (fun K3 n3 e3 q3 p3 => ?_)
 refine W.r ?_
 refine WL.a (some 13) (.int .i64 t1) h ?_
 refine WL.a (some 14) (strA t0) h ?_
 refine WL.a (some 15) (.int .i64 (lenS t0)) h ?_
 replace hF := lett_some hF; obtain ⟨t16, e4, hF⟩ := hF
 refine WL.val (d := (some 16)) (v := .bool t16) (h' := h) (by kernel_rfl) (by kernel_rfl) (val_of AV.bool e4 (by kernel_rfl)) ?_
 refine WL.a (some 17) (.bool t16) h ?_
 replace hF := lett_some hF; obtain ⟨j22, e6, hF⟩ := hF
 have J7 : ∀ (t22 : Bool) (h_5 : AHeap), j22 t22 h_5 = some (rR, hR) → WL Try.prog w0 m0 (Func.ntmps Try.f34) (Code.ops (Code.p1 (Code.p1 (Code.p2 (codeOf Try.f34))))) 10 K3 [(0, strA t0), (1, .int .i64 t1), (22, .bool t22)] [] h_5 := by
  intro t22 h_5 hF
  rw [e6] at hF
  refine WL.n ?_
  refine Go.weaken (l' := [(0, strA t0), (1, .int .i64 t1), (22, .bool t22)]) (Fr.c (Fr.c (Fr.c Fr.n))) ?_
  refine n3 ?_
  cases t22 with
  | true =>
   replace hF := ifB_t hF
   refine W.t ?_
   refine W.s (fun K8 n8 e8 q8 p8 => ?_)
   refine W.r ?_
   refine WL.a (some 23) (.int .i64 t1) h_5 ?_
   refine WL.a (some 4) (strA ([] : Bytes)) h_5 ?_
   refine WL.a (some 5) AV.nsl h_5 ?_
   refine WL.a (some 6) (.int .i64 t1) h_5 ?_
   refine WL.a (some 7) (.bool false) h_5 ?_
   refine WL.n ?_
   refine Go.weaken (l' := [(4, strA ([] : Bytes)), (5, AV.nsl), (6, .int .i64 t1), (7, .bool false)]) (Fr.c (Fr.c (Fr.c (Fr.c Fr.n)))) ?_
   refine n8 ?_
   refine W.ret (by kernel_rfl) ?_
   refine q2 ?_
   obtain ⟨hF, hF2⟩ := ret_inj hF; subst hF; subst hF2
   exact leave_of (rs := [.tmp 4, .tmp 5, .tmp 6, .tmp 7]) (vs := [strA ([] : Bytes), AV.nsl, .int .i64 t1, .bool false]) (by kernel_rfl) (res_tmp (by kernel_rfl) (res_tmp (by kernel_rfl) (res_tmp (by kernel_rfl) (res_tmp (by kernel_rfl) res_nil)))) (by kernel_rfl)
  | false =>
   replace hF := ifB_f hF
   refine W.f ?_
   refine W.skip (by kernel_rfl) ?_
   refine n2 ?_
   refine W.s (fun K9 n9 e9 q9 p9 => ?_)
   refine W.r ?_
   refine WL.a (some 24) (.int .i64 t1) h_5 ?_
   replace hF := lett_some hF; obtain ⟨t25, e10, hF⟩ := hF
   refine WL.val (d := (some 25)) (v := .int .i64 t25) (h' := h_5) (by kernel_rfl) (by kernel_rfl) (val_of (AV.int .i64) e10 (by kernel_rfl)) ?_
   refine WL.a (some 1) (.int .i64 t25) h_5 ?_
   refine WL.n ?_
   refine Go.weaken (l' := [(0, strA t0), (1, .int .i64 t25)]) (Fr.c (Fr.c Fr.n)) ?_
   refine n9 ?_
   refine W.s (fun K11 n11 e11 q11 p11 => ?_)
   refine W.r ?_
   refine WL.a (some 8) AV.nsl h_5 ?_
   refine WL.n ?_
   refine Go.weaken (l' := [(0, strA t0), (1, .int .i64 t25), (8, AV.nsl)]) (Fr.c (Fr.c (Fr.c Fr.n))) ?_
   refine n11 ?_
   refine W.s (fun K12 n12 e12 q12 p12 => ?_)
   refine W.r ?_
   refine WL.a (some 9) AV.nsl h_5 ?_
   refine WL.n ?_
   refine Go.weaken (l' := [(0, strA t0), (1, .int .i64 t25), (8, AV.nsl), (9, AV.nsl)]) (Fr.c (Fr.c (Fr.c (Fr.c Fr.n)))) ?_
   refine n12 ?_
   refine W.blockK (by kernel_rfl) (fun K13 n13 s13 o13 q13 p13 => ?_)
   refine W.loopK (by kernel_rfl) (fun I14 K14 b14 n14 e14 q14 p14 => ?_)
   have L14 : ∀ (m : Nat) (t1_15 : Int) (t8 : AV) (t9 : AV) (h_16 : AHeap), ref09_Scan_L0 call t0 m t1_15 t8 t9 h_16 = some (rR, hR) → Go w0 m0 (Func.ntmps Try.f34) I14 [(0, strA t0), (1, .int .i64 t1_15), (8, t8), (9, t9)] [] h_16 := by
    intro m
    induction m with
    | zero => intro t1_15 t8 t9 h_16 hF; cases hF
    | succ m ih14 =>
     intro t1_15 t8 t9 h_16 hF
     rw [ref09_Scan_L0_s] at hF; unfold ref09_Scan_L0b at hF
     refine b14 ?_
     refine W.blockK (by kernel_rfl) (fun K17 n17 s17 o17 q17 p17 => ?_)
     refine W.s (fun K18 n18 e18 q18 p18 => ?_)
     refine W.r ?_
     refine WL.a (some 26) t9 h_16 ?_
     refine WL.a (some 27) (.int .i64 t1_15) h_16 ?_
     replace hF := outK_some hF; obtain ⟨v28, h_19, e20, hF⟩ := hF
     refine WL.b (some 28) v28 h_19 e20 ?_
     replace hF := outK_some hF; obtain ⟨v29, h_21, e22, hF⟩ := hF
     refine WL.b (some 29) v29 h_21 e22 ?_
     refine WL.a (some 9) v29 h_21 ?_
     refine WL.n ?_
     refine Go.weaken (l' := [(0, strA t0), (1, .int .i64 t1_15), (8, t8), (9, v29)]) (Fr.c (Fr.c (Fr.c (Fr.c Fr.n)))) ?_
     refine n18 ?_
     refine W.s (fun K23 n23 e23 q23 p23 => ?_)
     refine W.s (fun K24 n24 e24 q24 p24 => ?_)
     refine W.r ?_
     refine WL.a (some 30) (.int .i64 t1_15) h_21 ?_
     refine WL.a (some 31) (strA t0) h_21 ?_
     refine WL.a (some 32) (.int .i64 (lenS t0)) h_21 ?_
     replace hF := lett_some hF; obtain ⟨t33, e25, hF⟩ := hF
     refine WL.val (d := (some 33)) (v := .bool t33) (h' := h_21) (by kernel_rfl) (by kernel_rfl) (val_of AV.bool e25 (by kernel_rfl)) ?_
     refine WL.a (some 34) (.bool t33) h_21 ?_
     replace hF := lett_some hF; obtain ⟨j39, e27, hF⟩ := hF
     have J28 : ∀ (t39 : Bool) (h_26 : AHeap), j39 t39 h_26 = some (rR, hR) → WL Try.prog w0 m0 (Func.ntmps Try.f34) (Code.ops (Code.p1 (Code.p1 (Code.p2 (Code.p1 (Code.p1 (Code.p1 (Code.p2 (Code.p2 (Code.p2 (Code.p2 (Code.p2 (codeOf Try.f34))))))))))))) 10 K24 [(0, strA t0), (1, .int .i64 t1_15), (8, t8), (9, v29), (39, .bool t39)] [] h_26 := by
      intro t39 h_26 hF
      rw [e27] at hF
      refine WL.n ?_
      refine Go.weaken (l' := [(0, strA t0), (1, .int .i64 t1_15), (8, t8), (9, v29), (39, .bool t39)]) (Fr.c (Fr.c (Fr.c (Fr.c (Fr.c Fr.n))))) ?_
      refine n24 ?_
      cases t39 with
      | true =>
       replace hF := ifB_t hF
       refine W.t ?_
       refine W.s (fun K29 n29 e29 q29 p29 => ?_)
       refine W.r ?_
       refine WL.a (some 40) t8 h_26 ?_
       replace hF := outK_some hF; obtain ⟨v41, h_30, e31, hF⟩ := hF
       replace hF := obind_some hF; obtain ⟨t41, c32, hF⟩ := hF
       have c32 := avStr_some c32
       subst c32
       refine WL.b (some 41) (strA t41) h_30 e31 ?_
       refine WL.a (some 42) v29 h_30 ?_
       refine WL.a (some 43) (.int .i64 t1_15) h_30 ?_
       replace hF := lett_some hF; obtain ⟨t44, e33, hF⟩ := hF
       refine WL.val (d := (some 44)) (v := .int .i64 t44) (h' := h_30) (by kernel_rfl) (by kernel_rfl) (val_of (AV.int .i64) e33 (by kernel_rfl)) ?_
       refine WL.a (some 4) (strA t41) h_30 ?_
       refine WL.a (some 5) v29 h_30 ?_
       refine WL.a (some 6) (.int .i64 t44) h_30 ?_
       refine WL.a (some 7) (.bool true) h_30 ?_
       refine WL.n ?_
       refine Go.weaken (l' := [(4, strA t41), (5, v29), (6, .int .i64 t44), (7, .bool true)]) (Fr.c (Fr.c (Fr.c (Fr.c Fr.n)))) ?_
       refine n29 ?_
       refine W.ret (by kernel_rfl) ?_
       refine q23 ?_
       refine q17 ?_
       refine q14 ?_
       refine q13 ?_
       obtain ⟨hF, hF2⟩ := ret_inj hF; subst hF; subst hF2
       exact leave_of (rs := [.tmp 4, .tmp 5, .tmp 6, .tmp 7]) (vs := [strA t41, v29, .int .i64 t44, .bool true]) (by kernel_rfl) (res_tmp (by kernel_rfl) (res_tmp (by kernel_rfl) (res_tmp (by kernel_rfl) (res_tmp (by kernel_rfl) res_nil)))) (by kernel_rfl)
      | false =>
       replace hF := ifB_f hF
       refine W.f ?_
       refine W.skip (by kernel_rfl) ?_
       refine n23 ?_
       refine W.s (fun K34 n34 e34 q34 p34 => ?_)
       refine W.r ?_
       refine WL.a (some 46) (strA t0) h_26 ?_
       refine WL.a (some 47) (.int .i64 t1_15) h_26 ?_
       replace hF := callN_some hF; obtain ⟨r48, h_35, e36, hF⟩ := hF
       refine WL.c (hc.ok w0) (some 48) e36 ?_
       refine WL.a (some 45) r48 h_35 ?_
       replace hF := obind_some hF; obtain ⟨v49, e37, hF⟩ := hF
       replace hF := obind_some hF; obtain ⟨t49, c38, hF⟩ := hF
       have c38 := avInt_some c38
       subst c38
       refine WL.b (some 49) (.int .u8 t49) h_35 (extract_tup (h := h_35) e37) ?_
       replace hF := obind_some hF; obtain ⟨v50, e39, hF⟩ := hF
       replace hF := obind_some hF; obtain ⟨t50, c40, hF⟩ := hF
       have c40 := avInt_some c40
       subst c40
       refine WL.b (some 50) (.int .i64 t50) h_35 (extract_tup (h := h_35) e39) ?_
       replace hF := obind_some hF; obtain ⟨v51, e41, hF⟩ := hF
       replace hF := obind_some hF; obtain ⟨t51, c42, hF⟩ := hF
       have c42 := avBool_some c42
       subst c42
       refine WL.b (some 51) (.bool t51) h_35 (extract_tup (h := h_35) e41) ?_
       refine WL.a (some 10) (.int .u8 t49) h_35 ?_
       refine WL.a (some 11) (.int .i64 t50) h_35 ?_
       refine WL.a (some 12) (.bool t51) h_35 ?_
       refine WL.n ?_
       refine Go.weaken (l' := [(0, strA t0), (8, t8), (9, v29), (10, .int .u8 t49), (11, .int .i64 t50), (12, .bool t51)]) (Fr.c (Fr.c (Fr.c (Fr.c (Fr.c (Fr.c Fr.n)))))) ?_
       refine n34 ?_
       refine W.s (fun K43 n43 e43 q43 p43 => ?_)
       refine W.s (fun K44 n44 e44 q44 p44 => ?_)
       refine W.r ?_
       refine WL.a (some 52) (.bool t51) h_35 ?_
       replace hF := lett_some hF; obtain ⟨t53, e45, hF⟩ := hF
       refine WL.val (d := (some 53)) (v := .bool t53) (h' := h_35) (by kernel_rfl) (by kernel_rfl) (val_of AV.bool e45 (by kernel_rfl)) ?_
       refine WL.n ?_
       refine Go.weaken (l' := [(0, strA t0), (8, t8), (9, v29), (10, .int .u8 t49), (11, .int .i64 t50), (53, .bool t53)]) (Fr.c (Fr.c (Fr.c (Fr.c (Fr.c (Fr.c Fr.n)))))) ?_
       refine n44 ?_
       cases t53 with
       | true =>
        replace hF := ifB_t hF
        refine W.t ?_
        refine W.s (fun K46 n46 e46 q46 p46 => ?_)
        refine W.r ?_
        refine WL.a (some 54) (.int .i64 t50) h_35 ?_
        refine WL.a (some 4) (strA ([] : Bytes)) h_35 ?_
        refine WL.a (some 5) AV.nsl h_35 ?_
        refine WL.a (some 6) (.int .i64 t50) h_35 ?_
        refine WL.a (some 7) (.bool false) h_35 ?_
        refine WL.n ?_
        refine Go.weaken (l' := [(4, strA ([] : Bytes)), (5, AV.nsl), (6, .int .i64 t50), (7, .bool false)]) (Fr.c (Fr.c (Fr.c (Fr.c Fr.n)))) ?_
        refine n46 ?_
        refine W.ret (by kernel_rfl) ?_
        refine q43 ?_
        refine q17 ?_
        refine q14 ?_
        refine q13 ?_
        obtain ⟨hF, hF2⟩ := ret_inj hF; subst hF; subst hF2
        exact leave_of (rs := [.tmp 4, .tmp 5, .tmp 6, .tmp 7]) (vs := [strA ([] : Bytes), AV.nsl, .int .i64 t50, .bool false]) (by kernel_rfl) (res_tmp (by kernel_rfl) (res_tmp (by kernel_rfl) (res_tmp (by kernel_rfl) (res_tmp (by kernel_rfl) res_nil)))) (by kernel_rfl)
       | false =>
        replace hF := ifB_f hF
        refine W.f ?_
        refine W.skip (by kernel_rfl) ?_
        refine n43 ?_
        refine W.s (fun K47 n47 e47 q47 p47 => ?_)
        refine W.r ?_
        refine WL.a (some 55) t8 h_35 ?_
        refine WL.a (some 56) (.int .u8 t49) h_35 ?_
        replace hF := outK_some hF; obtain ⟨v57, h_48, e49, hF⟩ := hF
        refine WL.b (some 57) v57 h_48 e49 ?_
        replace hF := outK_some hF; obtain ⟨v58, h_50, e51, hF⟩ := hF
        refine WL.b (some 58) v58 h_50 e51 ?_
        refine WL.a (some 8) v58 h_50 ?_
        refine WL.n ?_
        refine Go.weaken (l' := [(0, strA t0), (8, v58), (9, v29), (11, .int .i64 t50)]) (Fr.c (Fr.c (Fr.c (Fr.c Fr.n)))) ?_
        refine n47 ?_
        refine W.r ?_
        refine WL.a (some 59) (.int .i64 t50) h_50 ?_
        refine WL.a (some 1) (.int .i64 t50) h_50 ?_
        refine WL.n ?_
        refine Go.weaken (l' := [(0, strA t0), (1, .int .i64 t50), (8, v58), (9, v29)]) (Fr.c (Fr.c (Fr.c (Fr.c Fr.n)))) ?_
        refine n17 ?_
        refine n14 ?_
        exact Go.weaken (Fr.c (Fr.c (Fr.c (Fr.c Fr.n)))) (ih14 _ _ _ _ hF)
     cases t33 with
     | true =>
      replace hF := ifB_t hF
      refine WL.a (some 35) (strA t0) h_21 ?_
      refine WL.a (some 36) (.int .i64 t1_15) h_21 ?_
      replace hF := obind_some hF; obtain ⟨t37, e52, hF⟩ := hF
      refine WL.b (some 37) (.int .u8 t37) h_21 (index_str (P := Try.prog) (h := h_21) (t := 9) (k := .i64) (by kernel_rfl) e52) ?_
      replace hF := lett_some hF; obtain ⟨t38, e53, hF⟩ := hF
      refine WL.val (d := (some 38)) (v := .bool t38) (h' := h_21) (by kernel_rfl) (by kernel_rfl) (val_of AV.bool e53 (by kernel_rfl)) ?_
      refine WL.a (some 39) (.bool t38) h_21 ?_
      exact WL.weaken (Fr.c (Fr.c (Fr.c (Fr.c (Fr.c Fr.n))))) (J28 _ _ hF)
     | false =>
      replace hF := ifB_f hF
      refine WL.o (some 35) ?_
      refine WL.o (some 36) ?_
      refine WL.o (some 37) ?_
      refine WL.o (some 38) ?_
      refine WL.a (some 39) (.bool false) h_21 ?_
      exact WL.weaken (Fr.c (Fr.c (Fr.c (Fr.c (Fr.c Fr.n))))) (J28 _ _ hF)
   exact Go.weaken (Fr.c (Fr.c (Fr.c (Fr.c Fr.n)))) (L14 _ _ _ _ _ hF)
 cases t16 with
 | true =>
  replace hF := ifB_t hF
  refine WL.o (some 18) ?_
  refine WL.o (some 19) ?_
  refine WL.o (some 20) ?_
  refine WL.o (some 21) ?_
  refine WL.a (some 22) (.bool true) h ?_
  exact WL.weaken (Fr.c (Fr.c (Fr.c Fr.n))) (J7 _ _ hF)
 | false =>
  replace hF := ifB_f hF
  refine WL.a (some 18) (strA t0) h ?_
  refine WL.a (some 19) (.int .i64 t1) h ?_
  replace hF := obind_some hF; obtain ⟨t20, e54, hF⟩ := hF
  refine WL.b (some 20) (.int .u8 t20) h (index_str (P := Try.prog) (h := h) (t := 9) (k := .i64) (by kernel_rfl) e54) ?_
  replace hF := lett_some hF; obtain ⟨t21, e55, hF⟩ := hF
  refine WL.val (d := (some 21)) (v := .bool t21) (h' := h) (by kernel_rfl) (by kernel_rfl) (val_of AV.bool e55 (by kernel_rfl)) ?_
  refine WL.a (some 22) (.bool t21) h ?_
  exact WL.weaken (Fr.c (Fr.c (Fr.c Fr.n))) (J7 _ _ hF)
noncomputable def ref09_Scan_fn (call : CallF) (n : Nat) : FnT := fun args h => match args with
 | [x0, x1] => obind (avStr x0) fun t0 => obind (avInt .i64 x1) fun t1 => ref09_Scan call n t0 t1 h
 | _ => none
theorem ref09_Scan_holds {call : CallF} (hc : SaysAll Try.prog call) (n : Nat) : Holds Try.prog 34 (ref09_Scan_fn call n) := by
 intro args h r h2 e
 unfold ref09_Scan_fn at e
 split at e
 ·replace e := obind_some e; obtain ⟨t0, c0, e⟩ := e; have c0 := avStr_some c0; subst c0
  replace e := obind_some e; obtain ⟨t1, c1, e⟩ := e; have c1 := avInt_some c1; subst c1
  exact ref09_Scan_ok hc e
 ·cases e

noncomputable def ref09_Quoted_L0b (call : CallF) (t0 : Bytes) (t1 : Int) (k43 : Int → Int → AHeap → R) (self : Int → Int → AHeap → R) (t11_71 : Int) (t12_72 : Int) (h_73 : AHeap) : R :=
 lett (decide (t11_71 < t1)) fun (t27 : Bool) =>
 lett (fun (t33 : Bool) (h_77 : AHeap) =>
  lett (fun (t39 : Bool) (h_80 : AHeap) =>
   ifB t39
   (
    callN (call 35 [strA t0, .int .i64 t12_72] h_80) fun r43 h_85 =>
    obind (extT 0 r43) fun v44 =>
    obind (avInt .u8 v44) fun _ =>
    obind (extT 1 r43) fun v45 =>
    obind (avInt .i64 v45) fun t45 =>
    obind (extT 2 r43) fun v46 =>
    obind (avBool v46) fun t46 =>
    lett (!t46) fun (t48 : Bool) =>
    ifB t48
    (
     k43 t11_71 t12_72 h_85)
    (
     lett (IntKind.i64.wrap (t11_71 + 1)) fun (t51 : Int) =>
     self t51 t45 h_85))
   (
    k43 t11_71 t12_72 h_80)) fun j39 =>
  ifB t33
  (
   obind (idxS t0 t12_72) fun t37 =>
   lett ((t37 : Int) != 34) fun (t38 : Bool) =>
   j39 t38 h_77)
  (
   j39 false h_77)) fun j33 =>
 ifB t27
 (
  lett (decide (t12_72 < (lenS t0))) fun (t32 : Bool) =>
  j33 t32 h_73)
 (
  j33 false h_73)
noncomputable def ref09_Quoted_L0 (call : CallF) (t0 : Bytes) (t1 : Int) (k43 : Int → Int → AHeap → R) : Nat → Int → Int → AHeap → R := iterR (fun _ _ _ => none) (ref09_Quoted_L0b call t0 t1 k43)
theorem ref09_Quoted_L0_s (call : CallF) (t0 : Bytes) (t1 : Int) (k43 : Int → Int → AHeap → R) (m : Nat) : ref09_Quoted_L0 call t0 t1 k43 (m + 1) = ref09_Quoted_L0b call t0 t1 k43 (ref09_Quoted_L0 call t0 t1 k43 m) := rfl
noncomputable def ref09_Quoted (call : CallF) (n : Nat) (t0 : Bytes) (t1 : Int) (h : AHeap) : R :=
 lett (newH h 27 [.int .i64 0, .int .i64 0]) fun h_2 =>
 callN (call 34 [strA t0, .int .i64 0] h_2) fun r18 h_5 =>
 obind (extT 0 r18) fun v19 =>
 obind (avStr v19) fun t19 =>
 obind (extT 1 r18) fun v20 =>
 obind (extT 2 r18) fun v21 =>
 obind (avInt .i64 v21) fun t21 =>
 obind (extT 3 r18) fun v22 =>
 obind (avBool v22) fun t22 =>
 lett (decide (t1 ≥ 0)) fun (t24 : Bool) =>
 lett (fun  (h_18 : AHeap) =>
  lett (!t22) fun (t80 : Bool) =>
  ifB t80
  (
   callN (call 36 [.int .i64 t21] h_18) fun r82 h_23 =>
   obind (avAgg r82) fun t82 =>
   obind (stRow h_23 2 t82 (newP h)) fun h_26 =>
   obind (ldRow h_26 2 (newP h)) fun w6 =>
   some (.ret (.tup [strA ([] : Bytes), .int .i64 0, .agg w6]), h_26))
  (
   obind (lenL v20) fun t86 =>
   lett (IntKind.i64.wrap (t86 - 1)) fun (t87 : Int) =>
   obind (idxP 1 v20 t87) fun t88 =>
   obind (ldCell h_18 t88) fun v89 =>
   obind (avInt .i64 v89) fun t89 =>
   lett (IntKind.i64.wrap (t89 + 1)) fun (t90 : Int) =>
   obind (stRow h_18 2 ([.int .i64 0, .int .i64 0] : List AV) (newP h)) fun h_36 =>
   obind (ldRow h_36 2 (newP h)) fun w6_39 =>
   some (.ret (.tup [strA t19, .int .i64 t90, .agg w6_39]), h_36))) fun k17 =>
 ifB t24
 (
  lett (fun (t11 : Int) (t12 : Int) (h_44 : AHeap) =>
   lett ((t11 : Int) == t1) fun (t54 : Bool) =>
   lett (fun (t59 : Bool) (h_47 : AHeap) =>
    lett (fun (t64 : Bool) (h_50 : AHeap) =>
     lett (fun (t76 : Bool) (h_53 : AHeap) =>
      ifB t76
      (
       obind (stRow h_53 2 ([.int .i64 3, .int .i64 t12] : List AV) (newP h)) fun h_57 =>
       obind (ldRow h_57 2 (newP h)) fun w6_60 =>
       some (.ret (.tup [strA ([] : Bytes), .int .i64 0, .agg w6_60]), h_57))
      (
       k17 h_53)) fun j76 =>
     ifB t64
     (
      lett (decide (t12 ≥ (lenS t0))) fun (t69 : Bool) =>
      lett (fun (t75 : Bool) (h_62 : AHeap) =>
       j76 t75 h_62) fun j75 =>
      ifB t69
      (
       j75 true h_50)
      (
       obind (idxS t0 t12) fun t73 =>
       lett ((t73 : Int) != 34) fun (t74 : Bool) =>
       j75 t74 h_50))
     (
      j76 false h_50)) fun j64 =>
    ifB t59
    (
     obind (idxS t0 0) fun t62 =>
     lett ((t62 : Int) == 34) fun (t63 : Bool) =>
     j64 t63 h_47)
    (
     j64 false h_47)) fun j59 =>
   ifB t54
   (
    lett (decide ((lenS t0) > 0)) fun (t58 : Bool) =>
    j59 t58 h_44)
   (
    j59 false h_44)) fun k43 =>
  ref09_Quoted_L0 call t0 t1 k43 n 0 1 h_5)
 (
  k17 h_5)
set_option maxHeartbeats 4000000 in
set_option maxRecDepth 20000 in
theorem ref09_Quoted_ok {call : CallF} (hc : SaysAll Try.prog call) {n : Nat} {t0 : Bytes} {t1 : Int} {h : AHeap} {rR : ARes} {hR : AHeap} (hF : ref09_Quoted call n t0 t1 h = some (rR, hR)) : Says Try.prog 25 [strA t0, .int .i64 t1] h rR hR := by
 unfold ref09_Quoted at hF
 refine says_of (fn := Try.f25) Try.func25 (c := codeOf Try.f25) (by kernel_rfl) (by kernel_rfl) (fun w0 m0 => ?_)
 refine W.weaken (l' := [(0, strA t0), (1, .int .i64 t1)]) (Fr.c (Fr.c Fr.n)) ?_
 refine W.s (fun K1 n1 e1 q1 p1 => ?_)
 refine W.r ?_
 refine WL.a (some 4) (strA ([] : Bytes)) h ?_
 refine WL.a (some 5) (.int .i64 0) h ?_
 replace hF := lett_some hF; obtain ⟨h_2, e3, hF⟩ := hF
 refine WL.val (d := (some 6)) (v := (newP h)) (h' := h_2) (by kernel_rfl) (by kernel_rfl) (val_ofH e3 (by kernel_rfl)) ?_
 refine WL.n ?_
 refine Go.weaken (l' := [(0, strA t0), (1, .int .i64 t1), (6, (newP h))]) (Fr.c (Fr.c (Fr.c Fr.n))) ?_
 refine n1 ?_
 refine W.s (fun K4 n4 e4 q4 p4 => ?_)
 refine W.r ?_
 refine WL.a (some 17) (strA t0) h_2 ?_
 replace hF := callN_some hF; obtain ⟨r18, h_5, e6, hF⟩ := hF
 refine WL.c (hc.ok w0) (some 18) e6 ?_
 refine WL.a (some 16) r18 h_5 ?_
 replace hF := obind_some hF; obtain ⟨v19, e7, hF⟩ := hF
 replace hF := obind_some hF; obtain ⟨t19, c8, hF⟩ := hF
 have c8 := avStr_some c8
 subst c8
 refine WL.b (some 19) (strA t19) h_5 (extract_tup (h := h_5) e7) ?_
 replace hF := obind_some hF; obtain ⟨v20, e9, hF⟩ := hF
 refine WL.b (some 20) v20 h_5 (extract_tup (h := h_5) e9) ?_
 replace hF := obind_some hF; obtain ⟨v21, e10, hF⟩ := hF
 replace hF := obind_some hF; obtain ⟨t21, c11, hF⟩ := hF
 have c11 := avInt_some c11
 subst c11
 refine WL.b (some 21) (.int .i64 t21) h_5 (extract_tup (h := h_5) e10) ?_
 replace hF := obind_some hF; obtain ⟨v22, e12, hF⟩ := hF
 replace hF := obind_some hF; obtain ⟨t22, c13, hF⟩ := hF
 have c13 := avBool_some c13
 subst c13
 refine WL.b (some 22) (.bool t22) h_5 (extract_tup (h := h_5) e12) ?_
 refine WL.a (some 7) (strA t19) h_5 ?_
 refine WL.a (some 8) v20 h_5 ?_
 refine WL.a (some 9) (.int .i64 t21) h_5 ?_
 refine WL.a (some 10) (.bool t22) h_5 ?_
 refine WL.n ?_
 refine Go.weaken (l' := [(0, strA t0), (1, .int .i64 t1), (6, (newP h)), (7, strA t19), (8, v20), (9, .int .i64 t21), (10, .bool t22)]) (Fr.c (Fr.c (Fr.c (Fr.c (Fr.c (Fr.c (Fr.c Fr.n))))))) ?_
 refine n4 ?_
 refine W.s (fun K14 n14 e14 q14 p14 => ?_)
 refine W.s (fun K15 n15 e15 q15 p15 => ?_)
 refine W.r ?_
 refine WL.a (some 23) (.int .i64 t1) h_5 ?_
 replace hF := lett_some hF; obtain ⟨t24, e16, hF⟩ := hF
 refine WL.val (d := (some 24)) (v := .bool t24) (h' := h_5) (by kernel_rfl) (by kernel_rfl) (val_of AV.bool e16 (by kernel_rfl)) ?_
 refine WL.n ?_
 refine Go.weaken (l' := [(0, strA t0), (1, .int .i64 t1), (6, (newP h)), (7, strA t19), (8, v20), (9, .int .i64 t21), (10, .bool t22), (24, .bool t24)]) (Fr.c (Fr.c (Fr.c (Fr.c (Fr.c (Fr.c (Fr.c (Fr.c Fr.n)))))))) ?_
 refine n15 ?_
 replace hF := lett_some hF; obtain ⟨k17, e17, hF⟩ := hF
 have J17 : ∀  (h_18 : AHeap), k17 h_18 = some (rR, hR) → Go w0 m0 (Func.ntmps Try.f25) (K14 .normal) [(6, (newP h)), (7, strA t19), (8, v20), (9, .int .i64 t21), (10, .bool t22)] [] h_18 := by
  intro  h_18 hF
  rw [e17] at hF
  refine n14 ?_
  refine W.s (fun K19 n19 e19 q19 p19 => ?_)
  refine W.s (fun K20 n20 e20 q20 p20 => ?_)
  refine W.r ?_
  refine WL.a (some 79) (.bool t22) h_18 ?_
  replace hF := lett_some hF; obtain ⟨t80, e21, hF⟩ := hF
  refine WL.val (d := (some 80)) (v := .bool t80) (h' := h_18) (by kernel_rfl) (by kernel_rfl) (val_of AV.bool e21 (by kernel_rfl)) ?_
  refine WL.n ?_
  refine Go.weaken (l' := [(6, (newP h)), (7, strA t19), (8, v20), (9, .int .i64 t21), (80, .bool t80)]) (Fr.c (Fr.c (Fr.c (Fr.c (Fr.c Fr.n))))) ?_
  refine n20 ?_
  cases t80 with
  | true =>
   replace hF := ifB_t hF
   refine W.t ?_
   refine W.s (fun K22 n22 e22 q22 p22 => ?_)
   refine W.r ?_
   refine WL.a (some 81) (.int .i64 t21) h_18 ?_
   replace hF := callN_some hF; obtain ⟨r82, h_23, e24, hF⟩ := hF
   replace hF := obind_some hF; obtain ⟨t82, c25, hF⟩ := hF
   have c25 := avAgg_some c25
   subst c25
   refine WL.c (hc.ok w0) (some 82) e24 ?_
   refine WL.a (some 4) (strA ([] : Bytes)) h_23 ?_
   refine WL.a (some 5) (.int .i64 0) h_23 ?_
   replace hF := obind_some hF; obtain ⟨h_26, e27, hF⟩ := hF
   refine WL.e h_26 (store_row (P := Try.prog) (h := h_23) (t := 27) (v := (.agg t82)) (by kernel_rfl) (by kernel_rfl) e27) ?_
   refine WL.n ?_
   refine Go.weaken (l' := [(4, strA ([] : Bytes)), (5, .int .i64 0), (6, (newP h))]) (Fr.c (Fr.c (Fr.c Fr.n))) ?_
   refine n22 ?_
   refine W.ret (by kernel_rfl) ?_
   refine q19 ?_
   replace hF := obind_some hF; obtain ⟨w6, e28, hF⟩ := hF
   obtain ⟨hF, hF2⟩ := ret_inj hF; subst hF; subst hF2
   exact leave_of (rs := [.tmp 4, .tmp 5, .cell 6 27]) (vs := [strA ([] : Bytes), .int .i64 0, .agg w6]) (by kernel_rfl) (res_tmp (by kernel_rfl) (res_tmp (by kernel_rfl) (res_cell (by kernel_rfl) (load_row (P := Try.prog) (h := h_26) (t := 27) (by kernel_rfl) (by kernel_rfl) e28) res_nil))) (by kernel_rfl)
  | false =>
   replace hF := ifB_f hF
   refine W.f ?_
   refine W.skip (by kernel_rfl) ?_
   refine n19 ?_
   refine W.s (fun K29 n29 e29 q29 p29 => ?_)
   refine W.draw (by kernel_rfl) (hc.ok w0) (plan := [0, 1, 2, 3, 4, 5, 6, 7, 8, 9, 10, 11]) (by kernel_rfl) (by kernel_rfl) (by kernel_rfl) ?_
   refine WD.a 0 (some 83) (strA t19) h_18 ?_
   refine WD.a 0 (some 84) v20 h_18 ?_
   refine WD.a 0 (some 85) v20 h_18 ?_
   replace hF := obind_some hF; obtain ⟨t86, e30, hF⟩ := hF
   refine WD.b 0 (some 86) (.int .i64 t86) h_18 (len_row (P := Try.prog) (h := h_18) (t := 51) (e' := 3) (by kernel_rfl) e30) ?_
   replace hF := lett_some hF; obtain ⟨t87, e31, hF⟩ := hF
   refine WD.val (d := (some 87)) (v := .int .i64 t87) (h' := h_18) (by kernel_rfl) (by kernel_rfl) (val_of (AV.int .i64) e31 (by kernel_rfl)) (k := 0) (by kernel_rfl) (fun e => absurd e (by decide)) (by decide) ?_
   replace hF := obind_some hF; obtain ⟨t88, e32, hF⟩ := hF
   refine WD.b 0 (some 88) t88 h_18 (index_row (P := Try.prog) (h := h_18) (t := 51) (e' := 3) (k := .i64) (by kernel_rfl) (by kernel_rfl) (by kernel_rfl) e32) ?_
   replace hF := obind_some hF; obtain ⟨v89, e33, hF⟩ := hF
   replace hF := obind_some hF; obtain ⟨t89, c34, hF⟩ := hF
   have c34 := avInt_some c34
   subst c34
   refine WD.b 1 (some 89) (.int .i64 t89) h_18 (load_cell (P := Try.prog) (h := h_18) (t := 3) (by kernel_rfl) e33) ?_
   replace hF := lett_some hF; obtain ⟨t90, e35, hF⟩ := hF
   refine WD.val (d := (some 90)) (v := .int .i64 t90) (h' := h_18) (by kernel_rfl) (by kernel_rfl) (val_of (AV.int .i64) e35 (by kernel_rfl)) (k := 0) (by kernel_rfl) (fun e => absurd e (by decide)) (by decide) ?_
   refine WD.a 0 (some 91) (.agg ([.int .i64 0, .int .i64 0] : List AV)) h_18 ?_
   refine WD.a 0 (some 4) (strA t19) h_18 ?_
   refine WD.a 0 (some 5) (.int .i64 t90) h_18 ?_
   replace hF := obind_some hF; obtain ⟨h_36, e37, hF⟩ := hF
   refine WD.eff (h' := h_36) (by kernel_rfl) (by kernel_rfl) (Eq.trans (by kernel_rfl) (store_row (P := Try.prog) (h := h_18) (t := 27) (v := (.agg ([.int .i64 0, .int .i64 0] : List AV))) (by kernel_rfl) (by kernel_rfl) e37)) (k := 2) (by kernel_rfl) (fun _ => (by kernel_rfl)) (by decide) ?_
   refine WD.nil ?_
   refine Go.weaken (l' := [(4, strA t19), (5, .int .i64 t90), (6, (newP h))]) (Fr.c (Fr.c (Fr.c Fr.n))) ?_
   refine n29 ?_
   refine W.ret (by kernel_rfl) ?_
   replace hF := obind_some hF; obtain ⟨w6_39, e38, hF⟩ := hF
   obtain ⟨hF, hF2⟩ := ret_inj hF; subst hF; subst hF2
   exact leave_of (rs := [.tmp 4, .tmp 5, .cell 6 27]) (vs := [strA t19, .int .i64 t90, .agg w6_39]) (by kernel_rfl) (res_tmp (by kernel_rfl) (res_tmp (by kernel_rfl) (res_cell (by kernel_rfl) (load_row (P := Try.prog) (h := h_36) (t := 27) (by kernel_rfl) (by kernel_rfl) e38) res_nil))) (by kernel_rfl)
 cases t24 with
 | true =>
  replace hF := ifB_t hF
  refine W.t ?_
  refine W.s (fun K40 n40 e40 q40 p40 => ?_)
  refine W.r ?_
  refine WL.a (some 11) (.int .i64 0) h_5 ?_
  refine WL.a (some 12) (.int .i64 1) h_5 ?_
  refine WL.n ?_
  refine Go.weaken (l' := [(0, strA t0), (1, .int .i64 t1), (6, (newP h)), (7, strA t19), (8, v20), (9, .int .i64 t21), (10, .bool t22), (11, .int .i64 0), (12, .int .i64 1)]) (Fr.c (Fr.c (Fr.c (Fr.c (Fr.c (Fr.c (Fr.c (Fr.c (Fr.c Fr.n))))))))) ?_
  refine n40 ?_
  refine W.s (fun K41 n41 e41 q41 p41 => ?_)
  replace hF := lett_some hF; obtain ⟨k43, e43, hF⟩ := hF
  have J43 : ∀ (t11 : Int) (t12 : Int) (h_44 : AHeap), k43 t11 t12 h_44 = some (rR, hR) → Go w0 m0 (Func.ntmps Try.f25) (K41 .normal) [(0, strA t0), (1, .int .i64 t1), (6, (newP h)), (7, strA t19), (8, v20), (9, .int .i64 t21), (10, .bool t22), (11, .int .i64 t11), (12, .int .i64 t12)] [] h_44 := by
   intro t11 t12 h_44 hF
   rw [e43] at hF
   refine n41 ?_
   refine W.s (fun K45 n45 e45 q45 p45 => ?_)
   refine W.r ?_
   refine WL.a (some 52) (.int .i64 t11) h_44 ?_
   refine WL.a (some 53) (.int .i64 t1) h_44 ?_
   replace hF := lett_some hF; obtain ⟨t54, e46, hF⟩ := hF
   refine WL.val (d := (some 54)) (v := .bool t54) (h' := h_44) (by kernel_rfl) (by kernel_rfl) (val_of AV.bool e46 (by kernel_rfl)) ?_
   refine WL.a (some 55) (.bool t54) h_44 ?_
   replace hF := lett_some hF; obtain ⟨j59, e48, hF⟩ := hF
   have J49 : ∀ (t59 : Bool) (h_47 : AHeap), j59 t59 h_47 = some (rR, hR) → WL Try.prog w0 m0 (Func.ntmps Try.f25) (Code.ops (Code.p1 (Code.p2 (Code.p2 (Code.p1 (Code.p2 (Code.p1 (Code.p2 (Code.p2 (codeOf Try.f25)))))))))) 8 K45 [(0, strA t0), (6, (newP h)), (7, strA t19), (8, v20), (9, .int .i64 t21), (10, .bool t22), (12, .int .i64 t12), (59, .bool t59)] [] h_47 := by
    intro t59 h_47 hF
    rw [e48] at hF
    refine WL.a (some 60) (.bool t59) h_47 ?_
    replace hF := lett_some hF; obtain ⟨j64, e51, hF⟩ := hF
    have J52 : ∀ (t64 : Bool) (h_50 : AHeap), j64 t64 h_50 = some (rR, hR) → WL Try.prog w0 m0 (Func.ntmps Try.f25) (Code.ops (Code.p1 (Code.p2 (Code.p2 (Code.p1 (Code.p2 (Code.p1 (Code.p2 (Code.p2 (codeOf Try.f25)))))))))) 13 K45 [(0, strA t0), (6, (newP h)), (7, strA t19), (8, v20), (9, .int .i64 t21), (10, .bool t22), (12, .int .i64 t12), (64, .bool t64)] [] h_50 := by
     intro t64 h_50 hF
     rw [e51] at hF
     refine WL.a (some 65) (.bool t64) h_50 ?_
     replace hF := lett_some hF; obtain ⟨j76, e54, hF⟩ := hF
     have J55 : ∀ (t76 : Bool) (h_53 : AHeap), j76 t76 h_53 = some (rR, hR) → WL Try.prog w0 m0 (Func.ntmps Try.f25) (Code.ops (Code.p1 (Code.p2 (Code.p2 (Code.p1 (Code.p2 (Code.p1 (Code.p2 (Code.p2 (codeOf Try.f25)))))))))) 25 K45 [(6, (newP h)), (7, strA t19), (8, v20), (9, .int .i64 t21), (10, .bool t22), (12, .int .i64 t12), (76, .bool t76)] [] h_53 := by
      intro t76 h_53 hF
      rw [e54] at hF
      refine WL.n ?_
      refine Go.weaken (l' := [(6, (newP h)), (7, strA t19), (8, v20), (9, .int .i64 t21), (10, .bool t22), (12, .int .i64 t12), (76, .bool t76)]) (Fr.c (Fr.c (Fr.c (Fr.c (Fr.c (Fr.c (Fr.c Fr.n))))))) ?_
      refine n45 ?_
      cases t76 with
      | true =>
       replace hF := ifB_t hF
       refine W.t ?_
       refine W.s (fun K56 n56 e56 q56 p56 => ?_)
       refine W.r ?_
       refine WL.a (some 77) (.int .i64 t12) h_53 ?_
       refine WL.a (some 78) (.agg ([.int .i64 3, .int .i64 t12] : List AV)) h_53 ?_
       refine WL.a (some 4) (strA ([] : Bytes)) h_53 ?_
       refine WL.a (some 5) (.int .i64 0) h_53 ?_
       replace hF := obind_some hF; obtain ⟨h_57, e58, hF⟩ := hF
       refine WL.e h_57 (store_row (P := Try.prog) (h := h_53) (t := 27) (v := (.agg ([.int .i64 3, .int .i64 t12] : List AV))) (by kernel_rfl) (by kernel_rfl) e58) ?_
       refine WL.n ?_
       refine Go.weaken (l' := [(4, strA ([] : Bytes)), (5, .int .i64 0), (6, (newP h))]) (Fr.c (Fr.c (Fr.c Fr.n))) ?_
       refine n56 ?_
       refine W.ret (by kernel_rfl) ?_
       refine q14 ?_
       replace hF := obind_some hF; obtain ⟨w6_60, e59, hF⟩ := hF
       obtain ⟨hF, hF2⟩ := ret_inj hF; subst hF; subst hF2
       exact leave_of (rs := [.tmp 4, .tmp 5, .cell 6 27]) (vs := [strA ([] : Bytes), .int .i64 0, .agg w6_60]) (by kernel_rfl) (res_tmp (by kernel_rfl) (res_tmp (by kernel_rfl) (res_cell (by kernel_rfl) (load_row (P := Try.prog) (h := h_57) (t := 27) (by kernel_rfl) (by kernel_rfl) e59) res_nil))) (by kernel_rfl)
      | false =>
       replace hF := ifB_f hF
       refine W.f ?_
       refine W.skip (by kernel_rfl) ?_
       exact Go.weaken (Fr.c (Fr.c (Fr.c (Fr.c (Fr.c Fr.n))))) (J17 _ hF)
     cases t64 with
     | true =>
      replace hF := ifB_t hF
      refine WL.a (some 66) (.int .i64 t12) h_50 ?_
      refine WL.a (some 67) (strA t0) h_50 ?_
      refine WL.a (some 68) (.int .i64 (lenS t0)) h_50 ?_
      replace hF := lett_some hF; obtain ⟨t69, e61, hF⟩ := hF
      refine WL.val (d := (some 69)) (v := .bool t69) (h' := h_50) (by kernel_rfl) (by kernel_rfl) (val_of AV.bool e61 (by kernel_rfl)) ?_
      refine WL.a (some 70) (.bool t69) h_50 ?_
      replace hF := lett_some hF; obtain ⟨j75, e63, hF⟩ := hF
      have J64 : ∀ (t75 : Bool) (h_62 : AHeap), j75 t75 h_62 = some (rR, hR) → WL Try.prog w0 m0 (Func.ntmps Try.f25) (Code.ops (Code.p1 (Code.p2 (Code.p2 (Code.p1 (Code.p2 (Code.p1 (Code.p2 (Code.p2 (codeOf Try.f25)))))))))) 24 K45 [(6, (newP h)), (7, strA t19), (8, v20), (9, .int .i64 t21), (10, .bool t22), (12, .int .i64 t12), (65, .bool true), (75, .bool t75)] [] h_62 := by
       intro t75 h_62 hF
       rw [e63] at hF
       refine WL.a (some 76) (.bool t75) h_62 ?_
       exact WL.weaken (Fr.c (Fr.c (Fr.c (Fr.c (Fr.c (Fr.c (Fr.c Fr.n))))))) (J55 _ _ hF)
      cases t69 with
      | true =>
       replace hF := ifB_t hF
       refine WL.o (some 71) ?_
       refine WL.o (some 72) ?_
       refine WL.o (some 73) ?_
       refine WL.o (some 74) ?_
       refine WL.a (some 75) (.bool true) h_50 ?_
       exact WL.weaken (Fr.c (Fr.c (Fr.c (Fr.c (Fr.c (Fr.c (Fr.c (Fr.c Fr.n)))))))) (J64 _ _ hF)
      | false =>
       replace hF := ifB_f hF
       refine WL.a (some 71) (strA t0) h_50 ?_
       refine WL.a (some 72) (.int .i64 t12) h_50 ?_
       replace hF := obind_some hF; obtain ⟨t73, e65, hF⟩ := hF
       refine WL.b (some 73) (.int .u8 t73) h_50 (index_str (P := Try.prog) (h := h_50) (t := 9) (k := .i64) (by kernel_rfl) e65) ?_
       replace hF := lett_some hF; obtain ⟨t74, e66, hF⟩ := hF
       refine WL.val (d := (some 74)) (v := .bool t74) (h' := h_50) (by kernel_rfl) (by kernel_rfl) (val_of AV.bool e66 (by kernel_rfl)) ?_
       refine WL.a (some 75) (.bool t74) h_50 ?_
       exact WL.weaken (Fr.c (Fr.c (Fr.c (Fr.c (Fr.c (Fr.c (Fr.c (Fr.c Fr.n)))))))) (J64 _ _ hF)
     | false =>
      replace hF := ifB_f hF
      refine WL.o (some 66) ?_
      refine WL.o (some 67) ?_
      refine WL.o (some 68) ?_
      refine WL.o (some 69) ?_
      refine WL.o (some 70) ?_
      refine WL.o (some 71) ?_
      refine WL.o (some 72) ?_
      refine WL.o (some 73) ?_
      refine WL.o (some 74) ?_
      refine WL.o (some 75) ?_
      refine WL.a (some 76) (.bool false) h_50 ?_
      exact WL.weaken (Fr.c (Fr.c (Fr.c (Fr.c (Fr.c (Fr.c (Fr.c Fr.n))))))) (J55 _ _ hF)
    cases t59 with
    | true =>
     replace hF := ifB_t hF
     refine WL.a (some 61) (strA t0) h_47 ?_
     replace hF := obind_some hF; obtain ⟨t62, e67, hF⟩ := hF
     refine WL.b (some 62) (.int .u8 t62) h_47 (index_str (P := Try.prog) (h := h_47) (t := 9) (k := .i64) (by kernel_rfl) e67) ?_
     replace hF := lett_some hF; obtain ⟨t63, e68, hF⟩ := hF
     refine WL.val (d := (some 63)) (v := .bool t63) (h' := h_47) (by kernel_rfl) (by kernel_rfl) (val_of AV.bool e68 (by kernel_rfl)) ?_
     refine WL.a (some 64) (.bool t63) h_47 ?_
     exact WL.weaken (Fr.c (Fr.c (Fr.c (Fr.c (Fr.c (Fr.c (Fr.c (Fr.c Fr.n)))))))) (J52 _ _ hF)
    | false =>
     replace hF := ifB_f hF
     refine WL.o (some 61) ?_
     refine WL.o (some 62) ?_
     refine WL.o (some 63) ?_
     refine WL.a (some 64) (.bool false) h_47 ?_
     exact WL.weaken (Fr.c (Fr.c (Fr.c (Fr.c (Fr.c (Fr.c (Fr.c (Fr.c Fr.n)))))))) (J52 _ _ hF)
   cases t54 with
   | true =>
    replace hF := ifB_t hF
    refine WL.a (some 56) (strA t0) h_44 ?_
    refine WL.a (some 57) (.int .i64 (lenS t0)) h_44 ?_
    replace hF := lett_some hF; obtain ⟨t58, e69, hF⟩ := hF
    refine WL.val (d := (some 58)) (v := .bool t58) (h' := h_44) (by kernel_rfl) (by kernel_rfl) (val_of AV.bool e69 (by kernel_rfl)) ?_
    refine WL.a (some 59) (.bool t58) h_44 ?_
    exact WL.weaken (Fr.c (Fr.c (Fr.c (Fr.c (Fr.c (Fr.c (Fr.c (Fr.c Fr.n)))))))) (J49 _ _ hF)
   | false =>
    replace hF := ifB_f hF
    refine WL.o (some 56) ?_
    refine WL.o (some 57) ?_
    refine WL.o (some 58) ?_
    refine WL.a (some 59) (.bool false) h_44 ?_
    exact WL.weaken (Fr.c (Fr.c (Fr.c (Fr.c (Fr.c (Fr.c (Fr.c (Fr.c Fr.n)))))))) (J49 _ _ hF)
  refine W.blockK (by kernel_rfl) (fun K42 n42 s42 o42 q42 p42 => ?_)
  refine W.loopK (by kernel_rfl) (fun I70 K70 b70 n70 e70 q70 p70 => ?_)
  have L70 : ∀ (m : Nat) (t11_71 : Int) (t12_72 : Int) (h_73 : AHeap), ref09_Quoted_L0 call t0 t1 k43 m t11_71 t12_72 h_73 = some (rR, hR) → Go w0 m0 (Func.ntmps Try.f25) I70 [(0, strA t0), (1, .int .i64 t1), (6, (newP h)), (7, strA t19), (8, v20), (9, .int .i64 t21), (10, .bool t22), (11, .int .i64 t11_71), (12, .int .i64 t12_72)] [] h_73 := by
   intro m
   induction m with
   | zero => intro t11_71 t12_72 h_73 hF; cases hF
   | succ m ih70 =>
    intro t11_71 t12_72 h_73 hF
    rw [ref09_Quoted_L0_s] at hF; unfold ref09_Quoted_L0b at hF
    refine b70 ?_
    refine W.s (fun K74 n74 e74 q74 p74 => ?_)
    refine W.s (fun K75 n75 e75 q75 p75 => ?_)
    refine W.r ?_
    refine WL.a (some 25) (.int .i64 t11_71) h_73 ?_
    refine WL.a (some 26) (.int .i64 t1) h_73 ?_
    replace hF := lett_some hF; obtain ⟨t27, e76, hF⟩ := hF
    refine WL.val (d := (some 27)) (v := .bool t27) (h' := h_73) (by kernel_rfl) (by kernel_rfl) (val_of AV.bool e76 (by kernel_rfl)) ?_
    refine WL.a (some 28) (.bool t27) h_73 ?_
    replace hF := lett_some hF; obtain ⟨j33, e78, hF⟩ := hF
    have J79 : ∀ (t33 : Bool) (h_77 : AHeap), j33 t33 h_77 = some (rR, hR) → WL Try.prog w0 m0 (Func.ntmps Try.f25) (Code.ops (Code.p1 (Code.p1 (Code.p1 (Code.p1 (Code.p1 (Code.p2 (Code.p1 (Code.p2 (Code.p1 (Code.p2 (Code.p2 (codeOf Try.f25))))))))))))) 9 K75 [(0, strA t0), (1, .int .i64 t1), (6, (newP h)), (7, strA t19), (8, v20), (9, .int .i64 t21), (10, .bool t22), (11, .int .i64 t11_71), (12, .int .i64 t12_72), (33, .bool t33)] [] h_77 := by
     intro t33 h_77 hF
     rw [e78] at hF
     refine WL.a (some 34) (.bool t33) h_77 ?_
     replace hF := lett_some hF; obtain ⟨j39, e81, hF⟩ := hF
     have J82 : ∀ (t39 : Bool) (h_80 : AHeap), j39 t39 h_80 = some (rR, hR) → WL Try.prog w0 m0 (Func.ntmps Try.f25) (Code.ops (Code.p1 (Code.p1 (Code.p1 (Code.p1 (Code.p1 (Code.p2 (Code.p1 (Code.p2 (Code.p1 (Code.p2 (Code.p2 (codeOf Try.f25))))))))))))) 15 K75 [(0, strA t0), (1, .int .i64 t1), (6, (newP h)), (7, strA t19), (8, v20), (9, .int .i64 t21), (10, .bool t22), (11, .int .i64 t11_71), (12, .int .i64 t12_72), (39, .bool t39)] [] h_80 := by
      intro t39 h_80 hF
      rw [e81] at hF
      refine WL.n ?_
      refine Go.weaken (l' := [(0, strA t0), (1, .int .i64 t1), (6, (newP h)), (7, strA t19), (8, v20), (9, .int .i64 t21), (10, .bool t22), (11, .int .i64 t11_71), (12, .int .i64 t12_72), (39, .bool t39)]) (Fr.c (Fr.c (Fr.c (Fr.c (Fr.c (Fr.c (Fr.c (Fr.c (Fr.c (Fr.c Fr.n)))))))))) ?_
      refine n75 ?_
      cases t39 with
      | true =>
       replace hF := ifB_t hF
       refine W.t ?_
       refine W.skip (by kernel_rfl) ?_
       refine n74 ?_
       refine W.blockK (by kernel_rfl) (fun K83 n83 s83 o83 q83 p83 => ?_)
       refine W.s (fun K84 n84 e84 q84 p84 => ?_)
       refine W.r ?_
       refine WL.a (some 41) (strA t0) h_80 ?_
       refine WL.a (some 42) (.int .i64 t12_72) h_80 ?_
       replace hF := callN_some hF; obtain ⟨r43, h_85, e86, hF⟩ := hF
       refine WL.c (hc.ok w0) (some 43) e86 ?_
       refine WL.a (some 40) r43 h_85 ?_
       replace hF := obind_some hF; obtain ⟨v44, e87, hF⟩ := hF
       replace hF := obind_some hF; obtain ⟨t44, c88, hF⟩ := hF
       have c88 := avInt_some c88
       subst c88
       refine WL.b (some 44) (.int .u8 t44) h_85 (extract_tup (h := h_85) e87) ?_
       replace hF := obind_some hF; obtain ⟨v45, e89, hF⟩ := hF
       replace hF := obind_some hF; obtain ⟨t45, c90, hF⟩ := hF
       have c90 := avInt_some c90
       subst c90
       refine WL.b (some 45) (.int .i64 t45) h_85 (extract_tup (h := h_85) e89) ?_
       replace hF := obind_some hF; obtain ⟨v46, e91, hF⟩ := hF
       replace hF := obind_some hF; obtain ⟨t46, c92, hF⟩ := hF
       have c92 := avBool_some c92
       subst c92
       refine WL.b (some 46) (.bool t46) h_85 (extract_tup (h := h_85) e91) ?_
       refine WL.a (some 13) (.int .u8 t44) h_85 ?_
       refine WL.a (some 14) (.int .i64 t45) h_85 ?_
       refine WL.a (some 15) (.bool t46) h_85 ?_
       refine WL.n ?_
       refine Go.weaken (l' := [(0, strA t0), (1, .int .i64 t1), (6, (newP h)), (7, strA t19), (8, v20), (9, .int .i64 t21), (10, .bool t22), (11, .int .i64 t11_71), (12, .int .i64 t12_72), (14, .int .i64 t45), (15, .bool t46)]) (Fr.c (Fr.c (Fr.c (Fr.c (Fr.c (Fr.c (Fr.c (Fr.c (Fr.c (Fr.c (Fr.c Fr.n))))))))))) ?_
       refine n84 ?_
       refine W.s (fun K93 n93 e93 q93 p93 => ?_)
       refine W.s (fun K94 n94 e94 q94 p94 => ?_)
       refine W.r ?_
       refine WL.a (some 47) (.bool t46) h_85 ?_
       replace hF := lett_some hF; obtain ⟨t48, e95, hF⟩ := hF
       refine WL.val (d := (some 48)) (v := .bool t48) (h' := h_85) (by kernel_rfl) (by kernel_rfl) (val_of AV.bool e95 (by kernel_rfl)) ?_
       refine WL.n ?_
       refine Go.weaken (l' := [(0, strA t0), (1, .int .i64 t1), (6, (newP h)), (7, strA t19), (8, v20), (9, .int .i64 t21), (10, .bool t22), (11, .int .i64 t11_71), (12, .int .i64 t12_72), (14, .int .i64 t45), (48, .bool t48)]) (Fr.c (Fr.c (Fr.c (Fr.c (Fr.c (Fr.c (Fr.c (Fr.c (Fr.c (Fr.c (Fr.c Fr.n))))))))))) ?_
       refine n94 ?_
       cases t48 with
       | true =>
        replace hF := ifB_t hF
        refine W.t ?_
        refine W.exit (by kernel_rfl) ?_
        refine e93 ?_
        refine o83 (by kernel_rfl) ?_
        refine e70 ?_
        refine s42 (by kernel_rfl) ?_
        exact Go.weaken (Fr.c (Fr.c (Fr.c (Fr.c (Fr.c (Fr.c (Fr.c (Fr.c (Fr.c Fr.n))))))))) (J43 _ _ _ hF)
       | false =>
        replace hF := ifB_f hF
        refine W.f ?_
        refine W.skip (by kernel_rfl) ?_
        refine n93 ?_
        refine W.s (fun K96 n96 e96 q96 p96 => ?_)
        refine W.r ?_
        refine WL.a (some 49) (.int .i64 t45) h_85 ?_
        refine WL.a (some 12) (.int .i64 t45) h_85 ?_
        refine WL.n ?_
        refine Go.weaken (l' := [(0, strA t0), (1, .int .i64 t1), (6, (newP h)), (7, strA t19), (8, v20), (9, .int .i64 t21), (10, .bool t22), (11, .int .i64 t11_71), (12, .int .i64 t45)]) (Fr.c (Fr.c (Fr.c (Fr.c (Fr.c (Fr.c (Fr.c (Fr.c (Fr.c Fr.n))))))))) ?_
        refine n96 ?_
        refine W.r ?_
        refine WL.a (some 50) (.int .i64 t11_71) h_85 ?_
        replace hF := lett_some hF; obtain ⟨t51, e97, hF⟩ := hF
        refine WL.val (d := (some 51)) (v := .int .i64 t51) (h' := h_85) (by kernel_rfl) (by kernel_rfl) (val_of (AV.int .i64) e97 (by kernel_rfl)) ?_
        refine WL.a (some 11) (.int .i64 t51) h_85 ?_
        refine WL.n ?_
        refine Go.weaken (l' := [(0, strA t0), (1, .int .i64 t1), (6, (newP h)), (7, strA t19), (8, v20), (9, .int .i64 t21), (10, .bool t22), (11, .int .i64 t51), (12, .int .i64 t45)]) (Fr.c (Fr.c (Fr.c (Fr.c (Fr.c (Fr.c (Fr.c (Fr.c (Fr.c Fr.n))))))))) ?_
        refine n83 ?_
        refine n70 ?_
        exact Go.weaken (Fr.c (Fr.c (Fr.c (Fr.c (Fr.c (Fr.c (Fr.c (Fr.c (Fr.c Fr.n))))))))) (ih70 _ _ _ hF)
      | false =>
       replace hF := ifB_f hF
       refine W.f ?_
       refine W.exit (by kernel_rfl) ?_
       refine e74 ?_
       refine e70 ?_
       refine s42 (by kernel_rfl) ?_
       exact Go.weaken (Fr.c (Fr.c (Fr.c (Fr.c (Fr.c (Fr.c (Fr.c (Fr.c (Fr.c Fr.n))))))))) (J43 _ _ _ hF)
     cases t33 with
     | true =>
      replace hF := ifB_t hF
      refine WL.a (some 35) (strA t0) h_77 ?_
      refine WL.a (some 36) (.int .i64 t12_72) h_77 ?_
      replace hF := obind_some hF; obtain ⟨t37, e98, hF⟩ := hF
      refine WL.b (some 37) (.int .u8 t37) h_77 (index_str (P := Try.prog) (h := h_77) (t := 9) (k := .i64) (by kernel_rfl) e98) ?_
      replace hF := lett_some hF; obtain ⟨t38, e99, hF⟩ := hF
      refine WL.val (d := (some 38)) (v := .bool t38) (h' := h_77) (by kernel_rfl) (by kernel_rfl) (val_of AV.bool e99 (by kernel_rfl)) ?_
      refine WL.a (some 39) (.bool t38) h_77 ?_
      exact WL.weaken (Fr.c (Fr.c (Fr.c (Fr.c (Fr.c (Fr.c (Fr.c (Fr.c (Fr.c (Fr.c Fr.n)))))))))) (J82 _ _ hF)
     | false =>
      replace hF := ifB_f hF
      refine WL.o (some 35) ?_
      refine WL.o (some 36) ?_
      refine WL.o (some 37) ?_
      refine WL.o (some 38) ?_
      refine WL.a (some 39) (.bool false) h_77 ?_
      exact WL.weaken (Fr.c (Fr.c (Fr.c (Fr.c (Fr.c (Fr.c (Fr.c (Fr.c (Fr.c (Fr.c Fr.n)))))))))) (J82 _ _ hF)
    cases t27 with
    | true =>
     replace hF := ifB_t hF
     refine WL.a (some 29) (.int .i64 t12_72) h_73 ?_
     refine WL.a (some 30) (strA t0) h_73 ?_
     refine WL.a (some 31) (.int .i64 (lenS t0)) h_73 ?_
     replace hF := lett_some hF; obtain ⟨t32, e100, hF⟩ := hF
     refine WL.val (d := (some 32)) (v := .bool t32) (h' := h_73) (by kernel_rfl) (by kernel_rfl) (val_of AV.bool e100 (by kernel_rfl)) ?_
     refine WL.a (some 33) (.bool t32) h_73 ?_
     exact WL.weaken (Fr.c (Fr.c (Fr.c (Fr.c (Fr.c (Fr.c (Fr.c (Fr.c (Fr.c (Fr.c Fr.n)))))))))) (J79 _ _ hF)
    | false =>
     replace hF := ifB_f hF
     refine WL.o (some 29) ?_
     refine WL.o (some 30) ?_
     refine WL.o (some 31) ?_
     refine WL.o (some 32) ?_
     refine WL.a (some 33) (.bool false) h_73 ?_
     exact WL.weaken (Fr.c (Fr.c (Fr.c (Fr.c (Fr.c (Fr.c (Fr.c (Fr.c (Fr.c (Fr.c Fr.n)))))))))) (J79 _ _ hF)
  exact Go.weaken (Fr.c (Fr.c (Fr.c (Fr.c (Fr.c (Fr.c (Fr.c (Fr.c (Fr.c Fr.n))))))))) (L70 _ _ _ _ hF)
 | false =>
  replace hF := ifB_f hF
  refine W.f ?_
  refine W.skip (by kernel_rfl) ?_
  exact Go.weaken (Fr.c (Fr.c (Fr.c (Fr.c (Fr.c Fr.n))))) (J17 _ hF)
noncomputable def ref09_Quoted_fn (call : CallF) (n : Nat) : FnT := fun args h => match args with
 | [x0, x1] => obind (avStr x0) fun t0 => obind (avInt .i64 x1) fun t1 => ref09_Quoted call n t0 t1 h
 | _ => none
theorem ref09_Quoted_holds {call : CallF} (hc : SaysAll Try.prog call) (n : Nat) : Holds Try.prog 25 (ref09_Quoted_fn call n) := by
 intro args h r h2 e
 unfold ref09_Quoted_fn at e
 split at e
 ·replace e := obind_some e; obtain ⟨t0, c0, e⟩ := e; have c0 := avStr_some c0; subst c0
  replace e := obind_some e; obtain ⟨t1, c1, e⟩ := e; have c1 := avInt_some c1; subst c1
  exact ref09_Quoted_ok hc e
 ·cases e

noncomputable def ref09_bad (_ : CallF) (_ : Nat) (t0 : Int) (h : AHeap) : R :=
 lett (newH h 27 [.int .i64 0, .int .i64 0]) fun h_2 =>
 obind (stRow h_2 2 ([.int .i64 6, .int .i64 t0] : List AV) (newP h)) fun h_5 =>
 obind (ldRow h_5 2 (newP h)) fun w2 =>
 some (.ret (.agg w2), h_5)
set_option maxHeartbeats 4000000 in
set_option maxRecDepth 20000 in
theorem ref09_bad_ok {call : CallF} (_ : SaysAll Try.prog call) {n : Nat} {t0 : Int} {h : AHeap} {rR : ARes} {hR : AHeap} (hF : ref09_bad call n t0 h = some (rR, hR)) : Says Try.prog 36 [.int .i64 t0] h rR hR := by
 unfold ref09_bad at hF
 refine says_of (fn := Try.f36) Try.func36 (c := codeOf Try.f36) (by kernel_rfl) (by kernel_rfl) (fun w0 m0 => ?_)
 refine W.weaken (l' := [(0, .int .i64 t0)]) (Fr.c Fr.n) ?_
 refine W.s (fun K1 n1 e1 q1 p1 => ?_)
 refine W.r ?_
 replace hF := lett_some hF; obtain ⟨h_2, e3, hF⟩ := hF
 refine WL.val (d := (some 2)) (v := (newP h)) (h' := h_2) (by kernel_rfl) (by kernel_rfl) (val_ofH e3 (by kernel_rfl)) ?_
 refine WL.n ?_
 refine Go.weaken (l' := [(0, .int .i64 t0), (2, (newP h))]) (Fr.c (Fr.c Fr.n)) ?_
 refine n1 ?_
 refine W.s (fun K4 n4 e4 q4 p4 => ?_)
 refine W.r ?_
 refine WL.a (some 3) (.int .i64 t0) h_2 ?_
 refine WL.a (some 4) (.agg ([.int .i64 6, .int .i64 t0] : List AV)) h_2 ?_
 replace hF := obind_some hF; obtain ⟨h_5, e6, hF⟩ := hF
 refine WL.e h_5 (store_row (P := Try.prog) (h := h_2) (t := 27) (v := (.agg ([.int .i64 6, .int .i64 t0] : List AV))) (by kernel_rfl) (by kernel_rfl) e6) ?_
 refine WL.n ?_
 refine Go.weaken (l' := [(2, (newP h))]) (Fr.c Fr.n) ?_
 refine n4 ?_
 refine W.ret (by kernel_rfl) ?_
 replace hF := obind_some hF; obtain ⟨w2, e7, hF⟩ := hF
 obtain ⟨hF, hF2⟩ := ret_inj hF; subst hF; subst hF2
 exact leave_of (rs := [.cell 2 27]) (vs := [.agg w2]) (by kernel_rfl) (res_cell (by kernel_rfl) (load_row (P := Try.prog) (h := h_5) (t := 27) (by kernel_rfl) (by kernel_rfl) e7) res_nil) (by kernel_rfl)
noncomputable def ref09_bad_fn (call : CallF) (n : Nat) : FnT := fun args h => match args with
 | [x0] => obind (avInt .i64 x0) fun t0 => ref09_bad call n t0 h
 | _ => none
theorem ref09_bad_holds {call : CallF} (hc : SaysAll Try.prog call) (n : Nat) : Holds Try.prog 36 (ref09_bad_fn call n) := by
 intro args h r h2 e
 unfold ref09_bad_fn at e
 split at e
 ·replace e := obind_some e; obtain ⟨t0, c0, e⟩ := e; have c0 := avInt_some c0; subst c0
  exact ref09_bad_ok hc e
 ·cases e

end Go.Proofs.Ytjopejiooipmkaa
