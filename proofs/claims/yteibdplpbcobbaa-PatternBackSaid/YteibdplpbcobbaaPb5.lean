/- What patternBack_proved stands on, part 5 of 7. -/
import Derived.Test.YteibdplpbcobbaaPb4
import Derived.Test.YteibdplpbcobbaaRows
import Derived.WalkKit
import Derived.ProofKit
import Derived.OpenShut
import Derived.SizedLaws
import Derived.SliceStrings
namespace Go.Proofs.Yteibdplpbcobbaa
open Go.ChangeShapes Go.WideShapes Go.ChangeAt Go.RowKit
open Go.ChangeMaps (open_string shut_string)
theorem Try.own : ownKnob Try.prog.godebug = none := by kernel_rfl
theorem Try.laidOut : laidOutB Try.prog = true := by kernel_rfl
section
variable {H : Type} {enc : TypeId × Value → H}
theorem stays {P : Program} (hP : laidOutB P = true) {W W' : World} (hb : Below W.heap.size W W') (ts : List TypeId) : ∀ (vs : List Value) (ds : List (DataW H)) (ps : List MemPlace),
  DataW.TrodAll enc P W 0 (fun _ => true) true ts vs ds ps → (∀ t ∈ ts, P.readableRec t = true ∧ t < P.types.size) → (∀ x ∈ ps, x.block < W.heap.size) →
  DataW.TrodAll enc P W' 0 (fun b => decide (b < W.heap.size)) true ts vs ds ps := by
 induction ts with
 | nil =>
  intro vs ds ps h _ _
  obtain ⟨rfl, rfl, rfl⟩ := trodAll_nil h
  exact trodAll_mk0
 | cons t ts ih =>
  intro vs ds ps h hr hlt
  obtain ⟨v, vs', d, ds', p, q, rfl, rfl, rfl, h1, h2⟩ := trodAll_cons h
  obtain ⟨hr1, hr2⟩ := hr t (List.mem_cons_self ..)
  exact trodAll_cons_mk (Below.trod hP hr1 hr2 h1 hb (fun x hx => hlt x (List.mem_append_left _ hx))) (ih _ _ _ h2 (fun t ht => hr t (List.mem_cons_of_mem _ ht)) (fun x hx => hlt x (List.mem_append_right _ hx)))
theorem readable_of {P : Program} {ts : List TypeId} (h : (ts.all fun t => P.readableRec t && decide (t < P.types.size)) = true) : ∀ t ∈ ts, P.readableRec t = true ∧ t < P.types.size := by
 intro t ht
 have h1 := List.all_eq_true.1 h t ht
 rw [Bool.and_eq_true] at h1
 exact ⟨h1.1, of_decide_eq_true h1.2⟩
set_option maxRecDepth 100000 in
theorem lifted_of {f : FuncId} {fn : Func} {s : ChangeSpec} (hfn : Try.prog.funcs[f]? = some fn) (noInit : Try.prog.inits.idxOf? f = none) (hvars : s.vars = []) (hres : fn.resultTypes = #[4])
  (hread : (fn.params.toList.all fun t => Try.prog.readableRec t && decide (t < Try.prog.types.size)) = true)
  (hspec : ∀ (args : List Value) (ds : List (DataW H)) (W : World) (p : List MemPlace), DataW.TrodAll enc Try.prog W 0 (fun _ => true) true fn.params.toList args ds p → (s.fn H (ds ++ [])).results = [.lit (.bool true)] ∧ (s.fn H (ds ++ [])).args = ds ∧ (s.fn H (ds ++ [])).vars = [])
  (hplain : s.plain.varTypes Try.prog = [])
  (os : Os) (started : os.Started)
  (witness : ∃ (w : World) (tape : Tape) (i : Input), w.os = os ∧ (w.forCall tape i).Shaped Try.prog ∧ i.vars = [] ∧ Input.okWide Try.prog (w.forCall tape i) .any w.heap.size f i ∧
   s.pre6 enc Try.prog fn [] false (w.forCall tape i).memory i.args ∧ ({} : Assume).holds Try.prog (lone (Frame.enter Try.prog f i.args .normal) [] (w.forCall tape i)))
  (walk : ∀ (W : World) (args : Array Value) (ds : List (DataW H)) (p : List MemPlace), (∀ (j : Nat) t v, fn.params[j]? = some t → args[j]? = some v → ∃ base, Value.okWide Try.prog W .any base t v) →
   DataW.TrodAll enc Try.prog W 0 (fun _ => true) true fn.params.toList args.toList ds p → (∀ x ∈ p, x.block < W.heap.size) →
   (DataW.weightsEach Try.prog fn.params.toList ds).all (· ≤ reachBytes) = true →
   Calls Try.prog f args W fun e W' => e = .returned (.bool true) ∧ Below W.heap.size W W') :
  ReturnsInHanded {} Try.checked os f .any (s.pre6 enc Try.prog fn [] false) (s.post enc Try.prog fn false true false false) := by
 refine returnsInHanded_of_change_sized (C := Try.checked) Try.own started noInit hfn witness ?_
 intro W base args ds gs before hval hW _ hsz0 _
 have hW' := hW
 obtain ⟨p, q, hA0, hV, rfl, _, _⟩ := hW
 have hA : DataW.TrodAll enc Try.prog W 0 (fun _ => true) true fn.params.toList args.toList ds p := hA0
 rw [hvars] at hV hW'
 obtain ⟨rfl, rfl⟩ := trodVars_none hV
 simp only [List.append_nil] at hW'
 have hlt : ∀ x ∈ p, x.block < W.heap.size := fun x hx => by simpa using hW'.lt x hx
 have hsz : (DataW.weightsEach Try.prog fn.params.toList ds).all (· ≤ reachBytes) = true := by
  have h := hsz0
  rw [show s.plain.varTypes Try.checked.prog = [] from hplain] at h
  simp only [List.append_nil] at h
  exact h
 obtain ⟨er, ea, ev⟩ := hspec args.toList ds W p hA
 refine (walk W args ds p (fun j t v h1 h2 => ⟨base, hval j t v h1 h2⟩) hA hlt hsz).mono fun e W' ⟨he, hb⟩ => ?_
 subst he
 refine ⟨_, rfl, ds, [], p, [], p, [], ?_, ?_, ?_, ?_, hb.frame _, fun h => by cases h⟩
 ·rw [hvars]; exact hW'
 ·rw [er, hres]; exact trodAll_mk1 (shut_bool Try.underlying4 _)
 ·rw [ea]; exact stays Try.laidOut hb _ _ _ _ hA (readable_of hread) hlt
 ·rw [ev, hvars]; trivial
end
end Go.Proofs.Yteibdplpbcobbaa
namespace Go.Proofs.Yteibdplpbcobbaa
open Go.RowKit Abs
set_option maxRecDepth 100000 in
theorem works_run : came (.ret (.bool true)) (callA Try.prog (Memo.spec Try.prog 5000 []) 5000 30 13 [] ⟨0, [57], .e⟩) = true := by kernel_rfl
theorem works_holds : Holds Try.prog 13 (constF (.ret (.bool true))) :=
 constF_holds (fun h => Memo.says (by kernel_rfl) Memo.ok_nil (by kernel_rfl) (by kernel_rfl) works_run h)
end Go.Proofs.Yteibdplpbcobbaa
namespace Go.Proofs.Yteibdplpbcobbaa.Abs
noncomputable section
open Go.RowKit
def Wp (x : R) (Q : ARes → AHeap → Prop) : Prop := ∃ r h, x = some (r, h) ∧ Q r h
section
variable {α β : Type} {Q Q' : ARes → AHeap → Prop} {r : ARes} {h h1 : AHeap} {v : AV} {x y : R} {b : Bool}
theorem Wp.ret (hq : Q r h) : Wp (some (r, h)) Q := ⟨r, h, rfl, hq⟩
theorem Wp.of (e : x = some (r, h)) (hq : Q r h) : Wp x Q := ⟨r, h, e, hq⟩
theorem Wp.mono (k : Wp x Q) (hq : ∀ r h, Q r h → Q' r h) : Wp x Q' := by
 obtain ⟨r, h, e, q⟩ := k
 exact ⟨r, h, e, hq r h q⟩
theorem Wp.eq (k : Wp x fun r' h' => r' = r ∧ h' = h) : x = some (r, h) := by
 obtain ⟨_, _, e, rfl, rfl⟩ := k
 exact e
theorem Wp.ex {Q : AHeap → Prop} (k : Wp x fun r' h' => r' = r ∧ Q h') : ∃ h', x = some (r, h') ∧ Q h' := by
 obtain ⟨_, h', e, rfl, q⟩ := k
 exact ⟨h', e, q⟩
theorem Wp.lett {v : α} {k : α → R} (hk : Wp (k v) Q) : Wp (lett v k) Q := hk
theorem Wp.lettw {v : Int} {k : Int → R} (h1 : -9223372036854775808 ≤ v) (h2 : v < 9223372036854775808) (hk : Wp (k v) Q) : Wp (Abs.lett (IntKind.i64.wrap v) k) Q := by
 rw [wrap_i64 h1 h2]
 exact hk
theorem Wp.lettu8 {v : Int} {k : Int → R} (h1 : 0 ≤ v) (h2 : v < 256) (hk : Wp (k v) Q) : Wp (Abs.lett (IntKind.u8.wrap v) k) Q := by
 rw [wrap_u8 h1 h2]
 exact hk
theorem Wp.join0 {F : AHeap → R} {G : (AHeap → R) → R} (hk : ∀ k, k = F → Wp (G k) Q) : Wp (Abs.lett F G) Q := hk F rfl
theorem Wp.join1 {F : α → AHeap → R} {G : (α → AHeap → R) → R} (hk : ∀ k, k = F → Wp (G k) Q) : Wp (Abs.lett F G) Q := hk F rfl
theorem Wp.go0 {k F : AHeap → R} (e : k = F) (hk : Wp (F h) Q) : Wp (k h) Q := by rw [e]; exact hk
theorem Wp.go1 {k F : α → AHeap → R} {a : α} (e : k = F) (hk : Wp (F a h) Q) : Wp (k a h) Q := by rw [e]; exact hk
theorem Wp.obind {o : Option α} {a : α} {k : α → R} (e : o = some a) (hk : Wp (k a) Q) : Wp (Abs.obind o k) Q := by rw [e]; exact hk
theorem Wp.ift (e : b = true) (hk : Wp x Q) : Wp (ifB b x y) Q := by rw [e]; exact hk
theorem Wp.iff (e : b = false) (hk : Wp y Q) : Wp (ifB b x y) Q := by rw [e]; exact hk
theorem Wp.ifc (ht : b = true → Wp x Q) (hf : b = false → Wp y Q) : Wp (ifB b x y) Q := by
 cases b with
 | true => exact ht rfl
 | false => exact hf rfl
theorem Wp.outK {o : OutT} {k : AV → AHeap → R} (e : o = some (.val v, h1)) (hk : Wp (k v h1) Q) : Wp (Abs.outK o k) Q := by rw [e]; exact hk
theorem Wp.callN {k : AV → AHeap → R} (e : x = some (.ret v, h1)) (hk : Wp (k v h1) Q) : Wp (Abs.callN x k) Q := by rw [e]; exact hk
theorem Wp.callK {k : AV → AHeap → R} (e : x = some (.ret v, h1)) (hk : Wp (k v h1) Q) : Wp (Abs.callK x k) Q := by rw [e]; exact hk
theorem Wp.callP {k : AV → AHeap → R} (e : x = some (.panic v, h1)) (hq : Q (.panic v) h1) : Wp (Abs.callK x k) Q := by rw [e]; exact ⟨_, _, rfl, hq⟩
theorem Wp.chk (e : b = true) (hk : Wp x Q) : Wp (Abs.chk b x) Q := by rw [e]; exact hk
theorem Wp.gc (hx : Wp x fun r h' => Above h h' ∧ r.val.scal = true ∧ Q r h) : Wp (gcR h x) Q := by
 obtain ⟨r, h', e, ha, hv, q⟩ := hx
 rw [e, gcR_scal ha hv]
 exact ⟨_, _, rfl, q⟩
theorem Wp.gc2 (hx : Wp x fun r h' => Q r h' ∧ (Above h h' → r.val.lo h.next = true → Q r h)) : Wp (gcR h x) Q := by
 obtain ⟨r, h', e, q1, q2⟩ := hx
 rw [e]
 unfold gcR
 split
 ·rename_i e2
  simp only [Option.some.injEq, Prod.mk.injEq] at e2
  obtain ⟨rfl, rfl⟩ := e2
  split
  ·rename_i hc
   exact ⟨_, _, rfl, q2 hc.1 hc.2⟩
  ·exact ⟨_, _, rfl, q1⟩
 ·rename_i e2
  cases e2
end
theorem sliceS_int {l : Bytes} {a b : Int} (h0 : 0 ≤ a) (h1 : a ≤ b) (h2 : b ≤ (l.length : Int)) : sliceS l a b = some ((l.drop a.toNat).take (b.toNat - a.toNat)) := by
 obtain ⟨n, rfl⟩ := Int.eq_ofNat_of_zero_le h0
 obtain ⟨m, rfl⟩ := Int.eq_ofNat_of_zero_le (Int.le_trans h0 h1)
 exact sliceS_nat (by omega) (by omega)
theorem addS_val {a b : Bytes} (h : a.length + b.length ≤ 1000000000) : addS a b = some (a ++ b) := by
 unfold addS
 rw [Nat.ble_eq_true_of_le h]
theorem nilC_ptr (b o : Nat) : nilC (.ptr b o) = some (.ptr b o) := rfl
theorem fldP_ptr (f b o : Nat) : fldP f (.ptr b o) = some (.ptr b (o + f)) := rfl
theorem newP_eq (h : AHeap) : newP h = .ptr h.next 0 := rfl
theorem bne_t {a b : Int} (h : a ≠ b) : (a != b) = true := by simp [h]
theorem bne_f {a b : Int} (h : a = b) : (a != b) = false := by simp [h]
theorem beq_t {a b : Int} (h : a = b) : (a == b) = true := by simp [h]
theorem beq_f {a b : Int} (h : a ≠ b) : (a == b) = false := by simp [h]
section
variable {Q : ARes → AHeap → Prop} {h : AHeap} {b o n : Nat} {e : TypeId} {l vs : List AV} {v : AV} {K : AHeap → R}
theorem Wp.st1 (k : RowH h b e l) (ho : o < l.length) (h1 : v.one = true) (hk : ∀ h', RowH h' b e (l.set o v) → Tch [b] h h' → h'.next = h.next → Wp (K h') Q) : Wp (Abs.obind (stRow h 1 [v] (.ptr b o)) K) Q := by
 obtain ⟨h', e1, e2, e3, e4, e5⟩ := k.st1 ho h1
 exact Wp.obind e1 (hk h' e2 (tch_of e3 e4 e5 (.inl (by simp))) e3)
theorem Wp.stAll (k : RowH h b e l) (hn : vs.length = n) (hl : l.length = n) (h1 : vs.all AV.one = true) (hk : ∀ h', RowH h' b e vs → Tch [b] h h' → h'.next = h.next → Wp (K h') Q) : Wp (Abs.obind (stRow h n vs (.ptr b 0)) K) Q := by
 obtain ⟨h', e1, e2, e3, e4, e5⟩ := k.stAll hn hl h1
 exact Wp.obind e1 (hk h' e2 (tch_of e3 e4 e5 (.inl (by simp))) e3)
end
section
variable {P : Program} {e sz lo : Nat} {h h' : AHeap} {v x : AV} {rows : List (List AV)} {r : List AV} {t u : TypeId} {S : List Nat}
end
end
end Go.Proofs.Yteibdplpbcobbaa.Abs
namespace Go.Proofs.Yteibdplpbcobbaa.Abs
noncomputable section
open Go.RowKit
def BuB (U8 : TypeId) (h : AHeap) (b c : Nat) (buf : AV) (l : Bytes) : Prop :=
 (buf = .nsl ∧ l = [] ∧ c = b) ∨ (buf = .sl c 0 l.length 1 ∧ l ≠ [] ∧ c ≠ b ∧ c < h.next ∧ RowH h c U8 (bytesC l))
def BldR (TB U8 : TypeId) (h : AHeap) (b c : Nat) (l : Bytes) : Prop :=
 ∃ a buf, RowH h b TB [a, buf] ∧ b < h.next ∧ (a = .nilp ∨ a = .ptr b 0) ∧ BuB U8 h b c buf l
section
variable {P : Program} {TB U8 : TypeId} {h h' : AHeap} {b c : Nat} {buf : AV} {l : Bytes} {S : List Nat}
theorem BuB.one (k : BuB U8 h b c buf l) : buf.one = true ∧ AV.cells buf = [buf] ∧ lenL buf = some (l.length : Int) := by
 rcases k with ⟨rfl, rfl, _⟩ | ⟨rfl, _⟩ <;> exact ⟨rfl, rfl, rfl⟩
theorem BuB.tch (k : BuB U8 h b c buf l) (ht : Tch S h h') (hS : c ≠ b → c ∉ S) : BuB U8 h' b c buf l := by
 rcases k with k | ⟨h1, h2, h3, h4, h5⟩
 ·exact .inl k
 ·exact .inr ⟨h1, h2, h3, by have := ht.1; omega, h5.tch ht h4 (hS h3)⟩
theorem BldR.tch (k : BldR TB U8 h b c l) (ht : Tch S h h') (hb : b ∉ S) (hc : c ∉ S) : BldR TB U8 h' b c l := by
 obtain ⟨a, buf, k1, k2, k3, k4⟩ := k
 exact ⟨a, buf, k1.tch ht k2 hb, by have := ht.1; omega, k3, k4.tch ht fun _ => hc⟩
theorem BldR.new (TB U8 : TypeId) (h : AHeap) : BldR TB U8 (newH h TB [.nilp, .nsl]) h.next h.next [] :=
 ⟨_, _, RowH.new h TB [.nilp, .nsl], Nat.lt_succ_self _, .inl rfl, .inl ⟨rfl, rfl, rfl⟩⟩
theorem BldR.lt (k : BldR TB U8 h b c l) : b < h.next ∧ c < h.next := by
 obtain ⟨a, buf, k1, k2, k3, k4⟩ := k
 rcases k4 with ⟨_, _, rfl⟩ | ⟨_, _, _, k5, _⟩
 ·exact ⟨k2, k2⟩
 ·exact ⟨k2, k5⟩
theorem BuB.append {t u : TypeId} (k : BuB U8 h b c buf l) (hb : b < h.next) (s : Bytes) (he : elemOf P t = some U8) (hu : notInt P u = true) (hsz : P.cellsOf U8 = 1) (hfit : fitB P U8 1 = true) (hex : memB U8 h.ex = false) (hbig : l.length + s.length ≤ 1000000000) :
  ∃ buf' c' h', opAppend P h t u buf (strA s) = some (.val buf', h') ∧ BuB U8 h' b c' buf' (l ++ s) ∧ (c' = c ∨ h.next ≤ c') ∧ Tch [c] h h' ∧ h'.get b = h.get b := by
 cases s with
 | nil =>
  have hlen : lenA buf = some l.length := by rcases k with ⟨rfl, rfl, _⟩ | ⟨rfl, _⟩ <;> rfl
  refine ⟨buf, c, h, ?_, by rw [List.append_nil]; exact k, .inl rfl, Tch.refl _ _, rfl⟩
  have h0 : lenA (strA []) = some 0 := rfl
  have hf : firstA h 1 0 (strA []) = some [] := firstA_str []
  have hl0 : l.length ≤ 1000000000 := by simpa using hbig
  have hfit2 := bytesFit_of (P := P) (e := U8) (B := 1) (k := l.length + 0) hfit (by omega) (by omega)
  have hap : appendA h U8 1 buf [] 0 = some (.val buf, h) := by rcases k with ⟨rfl, _⟩ | ⟨rfl, _⟩ <;> rfl
  unfold notInt at hu
  unfold opAppend
  split at hu
  ·cases hu
  ·rename_i ud hni heq
   simp only [he, hlen, h0, heq, hsz, hf, hfit2, hex, List.all_nil, and_self, if_true]
   exact hap
  ·cases hu
 | cons y s =>
  rcases k with ⟨rfl, rfl, rfl⟩ | ⟨rfl, k0, k1, k2, k3⟩
  ·have e2 := append_new (P := P) (h := h) (t := t) (u := u) (n := s.length) (x := strA (y :: s)) he hu hsz rfl (firstA_str (h := h) (y :: s)) (bytesFit_of hfit (by simp at hbig; omega) (by simp at hbig; omega)) (bytesC_one _) hex
   refine ⟨_, h.next, _, e2, .inr ⟨by simp, by simp, by omega, Nat.lt_succ_self _, ?_⟩, .inr (Nat.le_refl _), Tch.newH _ _ _ _, get_new_other _ (by omega)⟩
   rw [List.nil_append]
   exact RowH.new _ _ _
  ·have e2 := append_more (P := P) (h := h) (t := t) (u := u) (b := c) (o := 0) (m := l.length) (x := strA (y :: s)) (n := s.length) (cs := bytesC l) he hu hsz rfl (firstA_str (h := h) (y :: s)) (bytesFit_of hfit (by simp at hbig; omega) (by simp at hbig; omega)) (bytesC_one _) hex (by
    have := k3.part (o := 0) (n := (bytesC l).length) (by omega)
    rw [List.drop_zero, List.take_length, bytesC_length] at this
    rw [Nat.mul_one]
    exact this) k3.type
   have t1 : Tch [c] h (h.put c .dead) := Tch.put (.inl (by simp)) _
   refine ⟨_, h.next, _, e2, .inr ⟨by simp, by simp, by omega, Nat.lt_succ_self _, ?_⟩, .inr (Nat.le_refl _), t1.trans (Tch.new _ _ _), ?_⟩
   ·rw [bytesC_append]
    exact RowH.new (h.put c .dead) U8 _
   ·exact (get_new_other (H := h.put c .dead) _ (show h.next ≠ b by omega)).trans (get_put_other _ k1)
end
theorem BuB.append1 {P : Program} {U8 : TypeId} {h : AHeap} {b c : Nat} {buf x : AV} {l : Bytes} {t u : TypeId} (k : BuB U8 h b c buf l) (hb : b < h.next) (y : UInt8) (he : elemOf P t = some U8) (hu : notInt P u = true) (hsz : P.cellsOf U8 = 1) (hfit : fitB P U8 1 = true) (hex : memB U8 h.ex = false) (hx : lenA x = some 1) (hf : firstA h 1 1 x = some (bytesC [y])) (hbig : l.length + 1 ≤ 1000000000) :
  ∃ buf' c' h', opAppend P h t u buf x = some (.val buf', h') ∧ BuB U8 h' b c' buf' (l ++ [y]) ∧ (c' = c ∨ h.next ≤ c') ∧ Tch [c] h h' ∧ h'.get b = h.get b := by
 rcases k with ⟨rfl, rfl, rfl⟩ | ⟨rfl, k0, k1, k2, k3⟩
 ·have e2 := append_new (P := P) (h := h) (t := t) (u := u) (n := 0) (x := x) he hu hsz hx hf (bytesFit_of hfit (by omega) (by omega)) (bytesC_one _) hex
  refine ⟨_, h.next, _, e2, .inr ⟨by simp, by simp, by omega, Nat.lt_succ_self _, ?_⟩, .inr (Nat.le_refl _), Tch.newH _ _ _ _, get_new_other _ (by omega)⟩
  rw [List.nil_append]
  exact RowH.new _ _ _
 ·have e2 := append_more (P := P) (h := h) (t := t) (u := u) (b := c) (o := 0) (m := l.length) (x := x) (n := 0) (cs := bytesC l) he hu hsz hx hf (bytesFit_of hfit (by omega) (by omega)) (bytesC_one _) hex (by
   have := k3.part (o := 0) (n := (bytesC l).length) (by omega)
   rw [List.drop_zero, List.take_length, bytesC_length] at this
   rw [Nat.mul_one]
   exact this) k3.type
  have t1 : Tch [c] h (h.put c .dead) := Tch.put (.inl (by simp)) _
  refine ⟨_, h.next, _, e2, .inr ⟨by simp, by simp, by omega, Nat.lt_succ_self _, ?_⟩, .inr (Nat.le_refl _), t1.trans (Tch.new _ _ _), ?_⟩
  ·rw [bytesC_append]
   exact RowH.new (h.put c .dead) U8 _
  ·exact (get_new_other (H := h.put c .dead) _ (show h.next ≠ b by omega)).trans (get_put_other _ k1)
end
end Go.Proofs.Yteibdplpbcobbaa.Abs
namespace Go.Proofs.Yteibdplpbcobbaa.Abs
noncomputable section
open Go.RowKit
def kindV : AV → Nat
 | .bool _ => 0
 | .int _ _ => 1
 | .str _ _ => 2
 | _ => 9
def kindT (P : Program) (t : TypeId) : Nat := match P.underlying t with
 | some .bool => 0
 | some (.int _) => 1
 | some .string => 2
 | _ => 8
def fieldsFlat (P : Program) : List Field → List Nat → Nat → Bool
 | [], [], _ => true
 | f :: fs, k :: ks, o => (f.name != "_") && Nat.beq f.offset o && Nat.beq (kindT P f.type) k && fieldsFlat P fs ks (o + 1)
 | _, _, _ => false
def eqCell : AV → AV → Option Bool
 | .bool a, .bool b => some (a == b)
 | .int k a, .int k' b => if k = k' then some (a == b) else none
 | .str n a, .str m b => some (Nat.beq n m && Nat.beq a b)
 | _, _ => none
def eqL : List Nat → List AV → List AV → Option Bool
 | [], [], [] => some true
 | k :: ks, x :: xs, y :: ys => if kindV x = k then match eqCell x y with
  | some true => eqL ks xs ys
  | r => r else none
 | _, _, _ => none
section
variable {P : Program}
theorem eqA_cell {d : Nat} {t : TypeId} {x y : AV} {b : Bool} (hk : kindV x = kindT P t) (he : eqCell x y = some b) : eqA P (d + 1) t x y = some b := by
 unfold kindT at hk
 unfold eqA
 cases hu : P.underlying t with
 | none => rw [hu] at hk; cases x <;> simp [kindV] at hk
 | some u =>
  rw [hu] at hk
  cases u <;> cases x <;> simp [kindV] at hk <;> cases y <;> simp [eqCell] at he <;> simp_all
theorem partA_cell {t : TypeId} {l : List AV} {o : Nat} {x : AV} (hk : kindT P t < 3) (hx : l[o]? = some x) : partA P t l o = some x := by
 unfold kindT at hk
 unfold partA
 cases hu : P.underlying t with
 | none => rw [hu] at hk; simp at hk
 | some u =>
  rw [hu] at hk
  cases u <;> simp at hk <;> simp [aggO, hu, isRowD, hx]
theorem kind_lt {x y : AV} {b : Bool} (he : eqCell x y = some b) : kindV x < 3 := by
 cases x <;> cases y <;> simp [eqCell] at he <;> simp [kindV]
theorem eqFields_flat : ∀ (fs : List Field) (ks : List Nat) (o d : Nat) (xs ys px py : List AV) (b : Bool), fieldsFlat P fs ks o = true → px.length = o → py.length = o → eqL ks xs ys = some b → fs.length < d → eqFields P (d + 1) fs (px ++ xs) (py ++ ys) = some b
 | [], ks, o, d, xs, ys, px, py, b, hf, _, _, he, _ => by
  cases ks with
  | cons k ks => simp [fieldsFlat] at hf
  | nil =>
   cases xs <;> cases ys <;> simp [eqL] at he
   subst he
   rfl
 | f :: fs, ks, o, d, xs, ys, px, py, b, hf, hx, hy, he, hd => by
  cases ks with
  | nil => simp [fieldsFlat] at hf
  | cons k ks =>
   cases xs with
   | nil => simp [eqL] at he
   | cons x xs =>
    cases ys with
    | nil => simp [eqL] at he
    | cons y ys =>
     simp only [fieldsFlat, Bool.and_eq_true] at hf
     obtain ⟨⟨⟨h1, h2⟩, h3⟩, h4⟩ := hf
     have h1 : ¬ f.name = "_" := by simpa using h1
     have h2 := Nat.eq_of_beq_eq_true h2
     have h3 := Nat.eq_of_beq_eq_true h3
     simp only [eqL] at he
     split at he
     ·rename_i hk
      have hlx : (px ++ x :: xs)[o]? = some x := by rw [List.getElem?_append_right (by omega), hx, Nat.sub_self]; rfl
      have hly : (py ++ y :: ys)[o]? = some y := by rw [List.getElem?_append_right (by omega), hy, Nat.sub_self]; rfl
      obtain ⟨d', rfl⟩ : ∃ d', d = d' + 1 := ⟨d - 1, by simp only [List.length_cons] at hd; omega⟩
      cases hc : eqCell x y with
      | none => rw [hc] at he; cases he
      | some c =>
       have hk3 := kind_lt hc
       rw [hc] at he
       unfold eqFields
       rw [if_neg h1, h2, partA_cell (by omega) hlx, partA_cell (by omega) hly]
       simp only
       rw [eqA_cell (d := d') (by omega) hc]
       cases c with
       | false => exact he
       | true =>
        simp only at he ⊢
        have := eqFields_flat fs ks (o + 1) d' xs ys (px ++ [x]) (py ++ [y]) b h4 (by simp [hx]) (by simp [hy]) he (by simp only [List.length_cons] at hd; omega)
        simpa using this
     ·cases he
def flatB (P : Program) (t : TypeId) (ks : List Nat) : Bool := (match P.underlying t with
 | some (.struct _) => true
 | _ => false) && !(P.eqGuardType P.depth t) && !(P.stoodInHeld t) && fieldsFlat P (P.fieldsOf t).toList ks 0 && Nat.blt (P.fieldsOf t).toList.length 1000
theorem eq_flat {t : TypeId} {ks : List Nat} {xs ys : List AV} {b : Bool} (hf : flatB P t ks = true) (he : eqL ks xs ys = some b) : eqOther P t (.agg xs) (.agg ys) = some b := by
 unfold flatB at hf
 simp only [Bool.and_eq_true, Bool.not_eq_true'] at hf
 obtain ⟨⟨⟨⟨h1, h2⟩, h3⟩, h4⟩, h5⟩ := hf
 have h5 : (P.fieldsOf t).toList.length < 1000 := Nat.le_of_ble_eq_true h5
 unfold eqOther
 simp only [h2, Bool.false_eq_true, if_false]
 unfold eqA
 cases hu : P.underlying t with
 | none => rw [hu] at h1; cases h1
 | some u =>
  rw [hu] at h1
  cases u <;> simp at h1
  simp only [h3, Bool.false_eq_true, if_false]
  exact eqFields_flat _ ks 0 1998 xs ys [] [] b h4 rfl rfl he (by omega)
end
theorem eqCell_str (a b : Bytes) : eqCell (strA a) (strA b) = some (a == b) := by
 rw [← eqS_eq]
 rfl
theorem eqCell_int (k : IntKind) (a b : Int) : eqCell (.int k a) (.int k b) = some (a == b) := by simp [eqCell]
theorem eqL_cons {k : Nat} {ks : List Nat} {x y : AV} {xs ys : List AV} {b c : Bool} (hk : kindV x = k) (h1 : eqCell x y = some b) (h2 : eqL ks xs ys = some c) : eqL (k :: ks) (x :: xs) (y :: ys) = some (b && c) := by
 simp only [eqL, hk, if_true, h1]
 cases b with
 | true => simpa using h2
 | false => rfl
end
end Go.Proofs.Yteibdplpbcobbaa.Abs
namespace Go.Proofs.Yteibdplpbcobbaa.Abs
noncomputable section
open Go.RowKit
abbrev RowT := Nat × TypeId × List AV
structure Mem (S : List Nat) (h0 h : AHeap) (rs : List RowT) : Prop where
 row : ∀ x ∈ rs, RowH h x.1 x.2.1 x.2.2 ∧ x.1 < h.next ∧ (x.1 ∈ S ∨ h0.next ≤ x.1)
 apart : (rs.map (·.1)).Nodup
 tch : Tch S h0 h
section
variable {S : List Nat} {h0 h h' : AHeap} {xs ys rs : List RowT} {b o n : Nat} {e : TypeId} {l l' vs : List AV} {v : AV} {Q : ARes → AHeap → Prop} {K : AHeap → R} {x : R} {x0 x1 x2 x3 x4 : RowT}
theorem Mem.nil (S : List Nat) (h : AHeap) : Mem S h h [] := ⟨by simp, by simp, Tch.refl _ _⟩
theorem Mem.one (k : RowH h b e l) (hb : b < h.next) : Mem [b] h h [(b, e, l)] := ⟨by simpa using ⟨k, hb⟩, by simp, Tch.refl _ _⟩
theorem Mem.at (M : Mem S h0 h (xs ++ (b, e, l) :: ys)) : RowH h b e l ∧ b < h.next ∧ (b ∈ S ∨ h0.next ≤ b) := M.row (b, e, l) (by simp)
theorem Mem.upd (M : Mem S h0 h (xs ++ (b, e, l) :: ys)) (ht : Tch [b] h h') (k : RowH h' b e l') : Mem S h0 h' (xs ++ (b, e, l') :: ys) := by
 have hap := M.apart
 have hle := ht.1
 simp only [List.map_append, List.map_cons] at hap
 have hne : ∀ x ∈ xs ++ ys, x.1 ≠ b := by
  intro x hx hxb
  rw [List.nodup_append] at hap
  obtain ⟨_, h2, h3⟩ := hap
  rw [List.nodup_cons] at h2
  rcases List.mem_append.1 hx with hx | hx
  ·exact h3 x.1 (List.mem_map_of_mem hx) b (by simp) hxb
  ·exact h2.1 (by rw [← hxb]; exact List.mem_map_of_mem hx)
 refine ⟨fun x hx => ?_, by simpa only [List.map_append, List.map_cons] using hap, M.tch.trans' ht fun i hi => ?_⟩
 ·have hx' : x ∈ xs ++ ys ∨ x = (b, e, l') := by
   rcases List.mem_append.1 hx with hx | hx
   ·exact .inl (List.mem_append_left _ hx)
   ·rcases List.mem_cons.1 hx with hx | hx
    ·exact .inr hx
    ·exact .inl (List.mem_append_right _ hx)
  rcases hx' with hx' | rfl
  ·obtain ⟨h1, h2, h3⟩ := M.row x (by
    rcases List.mem_append.1 hx' with hx | hx
    ·exact List.mem_append_left _ hx
    ·exact List.mem_append_right _ (List.mem_cons_of_mem _ hx))
   exact ⟨h1.tch ht h2 (by simpa using hne x hx'), by omega, h3⟩
  ·have := M.at
   exact ⟨k, by show b < h'.next; omega, this.2.2⟩
 ·simp only [List.mem_cons, List.not_mem_nil, or_false] at hi
  subst hi
  exact M.at.2.2
theorem Mem.keep (M : Mem S h0 h rs) (ht : Tch [] h h') : Mem S h0 h' rs := by
 have hle := ht.1
 refine ⟨fun x hx => ?_, M.apart, M.tch.trans (ht.mono (by simp))⟩
 obtain ⟨h1, h2, h3⟩ := M.row x hx
 exact ⟨h1.tch ht h2 (by simp), by omega, h3⟩
theorem Mem.new (M : Mem S h0 h rs) (ht : Tch [] h h') (k : RowH h' b e l) (hb : h.next ≤ b) (hb2 : b < h'.next) : Mem S h0 h' ((b, e, l) :: rs) := by
 have M' := M.keep ht
 have hle := M.tch.1
 refine ⟨fun x hx => ?_, ?_, M'.tch⟩
 ·rcases List.mem_cons.1 hx with rfl | hx
  ·exact ⟨k, hb2, .inr (by show h0.next ≤ b; omega)⟩
  ·exact M'.row x hx
 ·rw [List.map_cons, List.nodup_cons]
  refine ⟨fun hm => ?_, M.apart⟩
  obtain ⟨x, hx, hxb⟩ := List.mem_map.1 hm
  have := (M.row x hx).2.1
  omega
theorem Mem.newH (M : Mem S h0 h rs) (e : TypeId) (l : List AV) : Mem S h0 (newH h e l) ((h.next, e, l) :: rs) := M.new (Tch.newH _ _ _ _) (RowH.new _ _ _) (Nat.le_refl _) (Nat.lt_succ_self _)
theorem Mem.drop (M : Mem S h0 h (xs ++ ys)) : Mem S h0 h ys := by
 refine ⟨fun x hx => M.row x (List.mem_append_right _ hx), ?_, M.tch⟩
 have := M.apart
 rw [List.map_append, List.nodup_append] at this
 exact this.2.1
theorem Mem.pop (M : Mem S h0 h (x0 :: rs)) : Mem S h0 h rs := Mem.drop (xs := [x0]) M
theorem Mem.ex (M : Mem S h0 h rs) : h.ex = h0.ex := M.tch.2.1
theorem Mem.swap (M : Mem S h0 h (x0 :: x1 :: rs)) : Mem S h0 h (x1 :: x0 :: rs) := by
 refine ⟨fun x hx => M.row x (by simp only [List.mem_cons] at hx ⊢; exact or_left_comm.1 hx), ?_, M.tch⟩
 have := M.apart
 simp only [List.map_cons, List.nodup_cons, List.mem_cons, not_or] at this ⊢
 exact ⟨⟨fun h => this.1.1 h.symm, this.2.1⟩, this.1.2, this.2.2⟩
theorem Mem.base (M : Mem S h0 h rs) : Mem (rs.map (·.1)) h h rs := ⟨fun x hx => ⟨(M.row x hx).1, (M.row x hx).2.1, .inl (List.mem_map_of_mem hx)⟩, M.apart, Tch.refl _ _⟩
theorem Wp.mnew (M : Mem S h0 h rs) (hk : ∀ h', Mem S h0 h' ((h.next, e, l) :: rs) → Wp (K h') Q) : Wp (Abs.lett (Abs.newH h e l) K) Q := hk _ (M.newH e l)
theorem Wp.mbox {K : AV → AHeap → R} (M : Mem S h0 h rs) (h1 : l.all AV.one = true) (hk : ∀ h', Mem S h0 h' ((h.next, e, l) :: rs) → Wp (K (.ptr h.next 0) h') Q) : Wp (Abs.outK (opBox h e (some (.agg l))) K) Q :=
 Wp.outK (box_agg h1) (hk _ (M.newH e l))
theorem Wp.mnews {K : AV → AHeap → R} {w : OutT} {sz : Nat} (M : Mem S h0 h rs) (eb : w = outNewS h e l n sz) (h1 : l.all AV.one = true) (hex : memB e h0.ex = false) (hk : ∀ h', Mem S h0 h' ((h.next, e, l) :: rs) → Wp (K (.sl h.next 0 n sz) h') Q) : Wp (Abs.outK w K) Q := by
 refine Wp.outK (v := .sl h.next 0 n sz) (h1 := Abs.newH h e l) ?_ (hk _ (M.newH e l))
 rw [eb]
 unfold outNewS
 rw [if_pos ⟨h1, by rw [M.ex]; exact hex⟩]
 rfl
theorem Wp.mcall {K : AV → AHeap → R} (hx : ∃ h', x = some (.ret v, h') ∧ Tch [] h h') (M : Mem S h0 h rs) (hk : ∀ h', Mem S h0 h' rs → Tch [] h h' → Wp (K v h') Q) : Wp (Abs.callN x K) Q := by
 obtain ⟨h', e1, t⟩ := hx
 exact Wp.callN e1 (hk h' (M.keep t) t)
theorem and_t {a c : Bool} (h1 : a = true) (h2 : c = true) : (a && c) = true := by rw [h1, h2]; rfl
theorem Mem.at0 (M : Mem S h0 h ((b, e, l) :: ys)) : RowH h b e l ∧ b < h.next ∧ (b ∈ S ∨ h0.next ≤ b) := Mem.at (xs := []) M
theorem Wp.ld0 {K : AV → R} (M : Mem S h0 h ((b, e, l) :: ys)) (ho : l[o]? = some v) (hk : Wp (K v) Q) : Wp (Abs.obind (ldCell h (.ptr b o)) K) Q := Wp.obind (RowH.cell' (Mem.at (xs := []) M).1 ho) hk
theorem Wp.lr0 {K : List AV → R} (M : Mem S h0 h ((b, e, l) :: ys)) (hn : l.length = n) (hk : Wp (K l) Q) : Wp (Abs.obind (ldRow h n (.ptr b 0)) K) Q := Wp.obind (RowH.ldAll (Mem.at (xs := []) M).1 hn) hk
theorem Wp.sa0 (M : Mem S h0 h ((b, e, l) :: ys)) (hn : vs.length = n) (hl : l.length = n) (h1 : vs.all AV.one = true) (hk : ∀ h', Mem S h0 h' ((b, e, vs) :: ys) → Wp (K h') Q) : Wp (Abs.obind (stRow h n vs (.ptr b 0)) K) Q :=
 Wp.stAll (Mem.at (xs := []) M).1 hn hl h1 fun h' k' t' _ => hk h' (Mem.upd (xs := []) M t' k')
theorem Wp.ms0 (M : Mem S h0 h ((b, e, l) :: ys)) (ho : o < l.length) (h1 : v.one = true) (hk : ∀ h', Mem S h0 h' ((b, e, l.set o v) :: ys) → Wp (K h') Q) : Wp (Abs.obind (stRow h 1 [v] (.ptr b o)) K) Q :=
 Wp.st1 (Mem.at (xs := []) M).1 ho h1 fun h' k' t' _ => hk h' (Mem.upd (xs := []) M t' k')
theorem Mem.re0 {P : Program} {ty : TypeId} (M : Mem S h0 h ((b, e, l) :: ys)) (ha : aggO P ty = some false) (ho : l[o]? = some v) : reLoad P h ty (.ptr b o) v = true := reLoad_c ha (RowH.cell' (Mem.at (xs := []) M).1 ho)
theorem Mem.at1 (M : Mem S h0 h (x0 :: (b, e, l) :: ys)) : RowH h b e l ∧ b < h.next ∧ (b ∈ S ∨ h0.next ≤ b) := Mem.at (xs := [x0]) M
theorem Wp.ld1 {K : AV → R} (M : Mem S h0 h (x0 :: (b, e, l) :: ys)) (ho : l[o]? = some v) (hk : Wp (K v) Q) : Wp (Abs.obind (ldCell h (.ptr b o)) K) Q := Wp.obind (RowH.cell' (Mem.at (xs := [x0]) M).1 ho) hk
theorem Wp.lr1 {K : List AV → R} (M : Mem S h0 h (x0 :: (b, e, l) :: ys)) (hn : l.length = n) (hk : Wp (K l) Q) : Wp (Abs.obind (ldRow h n (.ptr b 0)) K) Q := Wp.obind (RowH.ldAll (Mem.at (xs := [x0]) M).1 hn) hk
theorem Wp.sa1 (M : Mem S h0 h (x0 :: (b, e, l) :: ys)) (hn : vs.length = n) (hl : l.length = n) (h1 : vs.all AV.one = true) (hk : ∀ h', Mem S h0 h' (x0 :: (b, e, vs) :: ys) → Wp (K h') Q) : Wp (Abs.obind (stRow h n vs (.ptr b 0)) K) Q :=
 Wp.stAll (Mem.at (xs := [x0]) M).1 hn hl h1 fun h' k' t' _ => hk h' (Mem.upd (xs := [x0]) M t' k')
theorem Wp.ms1 (M : Mem S h0 h (x0 :: (b, e, l) :: ys)) (ho : o < l.length) (h1 : v.one = true) (hk : ∀ h', Mem S h0 h' (x0 :: (b, e, l.set o v) :: ys) → Wp (K h') Q) : Wp (Abs.obind (stRow h 1 [v] (.ptr b o)) K) Q :=
 Wp.st1 (Mem.at (xs := [x0]) M).1 ho h1 fun h' k' t' _ => hk h' (Mem.upd (xs := [x0]) M t' k')
theorem Mem.re1 {P : Program} {ty : TypeId} (M : Mem S h0 h (x0 :: (b, e, l) :: ys)) (ha : aggO P ty = some false) (ho : l[o]? = some v) : reLoad P h ty (.ptr b o) v = true := reLoad_c ha (RowH.cell' (Mem.at (xs := [x0]) M).1 ho)
theorem Mem.at2 (M : Mem S h0 h (x0 :: x1 :: (b, e, l) :: ys)) : RowH h b e l ∧ b < h.next ∧ (b ∈ S ∨ h0.next ≤ b) := Mem.at (xs := [x0, x1]) M
theorem Wp.ld2 {K : AV → R} (M : Mem S h0 h (x0 :: x1 :: (b, e, l) :: ys)) (ho : l[o]? = some v) (hk : Wp (K v) Q) : Wp (Abs.obind (ldCell h (.ptr b o)) K) Q := Wp.obind (RowH.cell' (Mem.at (xs := [x0, x1]) M).1 ho) hk
theorem Wp.lr2 {K : List AV → R} (M : Mem S h0 h (x0 :: x1 :: (b, e, l) :: ys)) (hn : l.length = n) (hk : Wp (K l) Q) : Wp (Abs.obind (ldRow h n (.ptr b 0)) K) Q := Wp.obind (RowH.ldAll (Mem.at (xs := [x0, x1]) M).1 hn) hk
theorem Wp.sa2 (M : Mem S h0 h (x0 :: x1 :: (b, e, l) :: ys)) (hn : vs.length = n) (hl : l.length = n) (h1 : vs.all AV.one = true) (hk : ∀ h', Mem S h0 h' (x0 :: x1 :: (b, e, vs) :: ys) → Wp (K h') Q) : Wp (Abs.obind (stRow h n vs (.ptr b 0)) K) Q :=
 Wp.stAll (Mem.at (xs := [x0, x1]) M).1 hn hl h1 fun h' k' t' _ => hk h' (Mem.upd (xs := [x0, x1]) M t' k')
theorem Mem.rr2 {P : Program} {ty : TypeId} (M : Mem S h0 h (x0 :: x1 :: (b, e, l) :: ys)) (ha : aggO P ty = some true) (hn : P.cellsOf ty = l.length) : reLoad P h ty (.ptr b 0) (.agg l) = true := reLoad_r ha hn (RowH.ldAll (Mem.at (xs := [x0, x1]) M).1 rfl)
theorem Wp.ld3 {K : AV → R} (M : Mem S h0 h (x0 :: x1 :: x2 :: (b, e, l) :: ys)) (ho : l[o]? = some v) (hk : Wp (K v) Q) : Wp (Abs.obind (ldCell h (.ptr b o)) K) Q := Wp.obind (RowH.cell' (Mem.at (xs := [x0, x1, x2]) M).1 ho) hk
theorem Wp.lr3 {K : List AV → R} (M : Mem S h0 h (x0 :: x1 :: x2 :: (b, e, l) :: ys)) (hn : l.length = n) (hk : Wp (K l) Q) : Wp (Abs.obind (ldRow h n (.ptr b 0)) K) Q := Wp.obind (RowH.ldAll (Mem.at (xs := [x0, x1, x2]) M).1 hn) hk
theorem Wp.sa3 (M : Mem S h0 h (x0 :: x1 :: x2 :: (b, e, l) :: ys)) (hn : vs.length = n) (hl : l.length = n) (h1 : vs.all AV.one = true) (hk : ∀ h', Mem S h0 h' (x0 :: x1 :: x2 :: (b, e, vs) :: ys) → Wp (K h') Q) : Wp (Abs.obind (stRow h n vs (.ptr b 0)) K) Q :=
 Wp.stAll (Mem.at (xs := [x0, x1, x2]) M).1 hn hl h1 fun h' k' t' _ => hk h' (Mem.upd (xs := [x0, x1, x2]) M t' k')
theorem Wp.ms3 (M : Mem S h0 h (x0 :: x1 :: x2 :: (b, e, l) :: ys)) (ho : o < l.length) (h1 : v.one = true) (hk : ∀ h', Mem S h0 h' (x0 :: x1 :: x2 :: (b, e, l.set o v) :: ys) → Wp (K h') Q) : Wp (Abs.obind (stRow h 1 [v] (.ptr b o)) K) Q :=
 Wp.st1 (Mem.at (xs := [x0, x1, x2]) M).1 ho h1 fun h' k' t' _ => hk h' (Mem.upd (xs := [x0, x1, x2]) M t' k')
theorem Mem.rr3 {P : Program} {ty : TypeId} (M : Mem S h0 h (x0 :: x1 :: x2 :: (b, e, l) :: ys)) (ha : aggO P ty = some true) (hn : P.cellsOf ty = l.length) : reLoad P h ty (.ptr b 0) (.agg l) = true := reLoad_r ha hn (RowH.ldAll (Mem.at (xs := [x0, x1, x2]) M).1 rfl)
theorem Wp.ld4 {K : AV → R} (M : Mem S h0 h (x0 :: x1 :: x2 :: x3 :: (b, e, l) :: ys)) (ho : l[o]? = some v) (hk : Wp (K v) Q) : Wp (Abs.obind (ldCell h (.ptr b o)) K) Q := Wp.obind (RowH.cell' (Mem.at (xs := [x0, x1, x2, x3]) M).1 ho) hk
theorem Wp.lr4 {K : List AV → R} (M : Mem S h0 h (x0 :: x1 :: x2 :: x3 :: (b, e, l) :: ys)) (hn : l.length = n) (hk : Wp (K l) Q) : Wp (Abs.obind (ldRow h n (.ptr b 0)) K) Q := Wp.obind (RowH.ldAll (Mem.at (xs := [x0, x1, x2, x3]) M).1 hn) hk
theorem Wp.sa4 (M : Mem S h0 h (x0 :: x1 :: x2 :: x3 :: (b, e, l) :: ys)) (hn : vs.length = n) (hl : l.length = n) (h1 : vs.all AV.one = true) (hk : ∀ h', Mem S h0 h' (x0 :: x1 :: x2 :: x3 :: (b, e, vs) :: ys) → Wp (K h') Q) : Wp (Abs.obind (stRow h n vs (.ptr b 0)) K) Q :=
 Wp.stAll (Mem.at (xs := [x0, x1, x2, x3]) M).1 hn hl h1 fun h' k' t' _ => hk h' (Mem.upd (xs := [x0, x1, x2, x3]) M t' k')
end
end
end Go.Proofs.Yteibdplpbcobbaa.Abs
namespace Go.Proofs.Yteibdplpbcobbaa.Abs
noncomputable section
open Go.RowKit
def GrowT (e : TypeId) (sz : Nat) (rows : List (List AV)) (v : AV) (T : List RowT) : Prop :=
 (∀ r ∈ rows, r.length = sz ∧ r.all AV.one = true) ∧ ((rows = [] ∧ v = .nsl ∧ T = []) ∨ (rows ≠ [] ∧ ∃ c, v = .sl c 0 rows.length sz ∧ T = [(c, e, rows.flatten)]))
theorem GrowT.nil (e : TypeId) (sz : Nat) : GrowT e sz [] .nsl [] := ⟨by simp, .inl ⟨rfl, rfl, rfl⟩⟩
section
variable {P : Program} {S : List Nat} {h0 h h' : AHeap} {xs ys rs T : List RowT} {b o n sz B : Nat} {e t u : TypeId} {l l' vs r : List AV} {v x : AV} {rows : List (List AV)} {Q : ARes → AHeap → Prop}
theorem GrowT.len (g : GrowT e sz rows v T) : lenL v = some (rows.length : Int) := by
 rcases g.2 with ⟨rfl, rfl, _⟩ | ⟨_, c, rfl, _⟩ <;> rfl
theorem GrowT.one (g : GrowT e sz rows v T) : v.one = true ∧ AV.cells v = [v] := by
 rcases g.2 with ⟨rfl, rfl, _⟩ | ⟨_, c, rfl, _⟩ <;> exact ⟨rfl, rfl⟩
theorem Mem.perm (M : Mem S h0 h rs) (hp : ys.Perm rs) : Mem S h0 h ys :=
 ⟨fun x hx => M.row x (hp.subset hx), (hp.map _).nodup_iff.2 M.apart, M.tch⟩
theorem Mem.kill (M : Mem S h0 h (xs ++ [(b, e, l)])) : Mem S h0 (h.put b .dead) xs := by
 have hb := M.at
 have hap := M.apart
 rw [List.map_append, List.nodup_append] at hap
 refine ⟨fun x hx => ?_, hap.1, M.tch.trans' (Tch.put (S := [b]) (.inl (by simp)) _) (by intro i hi; simp at hi; subst hi; exact hb.2.2)⟩
 obtain ⟨h1, h2, h3⟩ := M.row x (List.mem_append_left _ hx)
 have hne : x.1 ≠ b := hap.2.2 x.1 (List.mem_map_of_mem hx) b (by simp)
 exact ⟨h1.same (get_put_other _ (Ne.symm hne)), h2, h3⟩
theorem Mem.grow (M : Mem S h0 h (xs ++ T)) (g : GrowT e sz rows v T) (he : elemOf P t = some e) (hu : notInt P u = true) (hsz : P.cellsOf e = sz) (hfit : fitB P e B = true) (hex : memB e h0.ex = false)
  (hx : lenA x = some 1) (hf : firstA h sz 1 x = some r) (hr : r.length = sz) (hr1 : r.all AV.one = true) (hbig : (rows.length + 1) * B ≤ 1000000000) (hbig2 : rows.length + 1 ≤ 1000000000) :
  ∃ v' h' T', opAppend P h t u v x = some (.val v', h') ∧ Mem S h0 h' (xs ++ T') ∧ GrowT e sz (rows ++ [r]) v' T' := by
 have hall : ∀ q ∈ rows ++ [r], q.length = sz ∧ q.all AV.one = true := by
  intro q hq
  rcases List.mem_append.1 hq with hq | hq
  ·exact g.1 q hq
  ·simp at hq
   subst hq
   exact ⟨hr, hr1⟩
 have hfl : (rows ++ [r]).flatten = rows.flatten ++ r := by simp
 have hex' : memB e h.ex = false := by rw [M.ex]; exact hex
 rcases g.2 with ⟨rfl, rfl, rfl⟩ | ⟨h1, c, rfl, rfl⟩
 ·have a1 := append_new (P := P) (h := h) (t := t) (u := u) (n := 0) (x := x) he hu hsz hx hf (bytesFit_of hfit (by simpa using hbig) (by omega)) hr1 hex'
  rw [List.append_nil] at M
  refine ⟨_, _, [(h.next, e, r)], a1, (M.newH e r).perm List.perm_append_comm, ⟨hall, .inr ⟨by simp, h.next, by simp, by simp⟩⟩⟩
 ·have hl := len_same rows (fun l hl => (g.1 l hl).1)
  have hc := M.at
  have a1 := append_more (P := P) (h := h) (t := t) (u := u) (b := c) (o := 0) (m := rows.length) (n := 0) (x := x) (cs := rows.flatten) he hu hsz hx hf (bytesFit_of hfit hbig hbig2) hr1 hex' (by
   have := hc.1.part (o := 0) (n := rows.flatten.length) (by omega)
   rw [List.drop_zero, List.take_length] at this
   rw [← hl]
   exact this) hc.1.type
  have M1 := M.kill
  refine ⟨_, _, [(h.next, e, rows.flatten ++ r)], a1, (M1.newH e (rows.flatten ++ r)).perm List.perm_append_comm, ⟨hall, .inr ⟨by simp, h.next, by simp, by rw [hfl]⟩⟩⟩
theorem Mem.frame (M : Mem S h0 h (xs ++ rs)) (M' : Mem (xs.map (·.1)) h h' ys) : Mem S h0 h' (ys ++ rs) := by
 have hap := M.apart
 rw [List.map_append, List.nodup_append] at hap
 obtain ⟨a1, a2, a3⟩ := hap
 have hxs : ∀ b ∈ xs.map (·.1), b ∈ S ∨ h0.next ≤ b := by
  intro b hb
  obtain ⟨x, hx, rfl⟩ := List.mem_map.1 hb
  exact (M.row x (List.mem_append_left _ hx)).2.2
 have hle := M.tch.1
 have hle' := M'.tch.1
 refine ⟨fun x hx => ?_, ?_, M.tch.trans' M'.tch hxs⟩
 ·rcases List.mem_append.1 hx with hx | hx
  ·obtain ⟨h1, h2, h3⟩ := M'.row x hx
   exact ⟨h1, h2, h3.elim (fun h => hxs _ h) (fun h => .inr (by omega))⟩
  ·obtain ⟨h1, h2, h3⟩ := M.row x (List.mem_append_right _ hx)
   exact ⟨h1.tch M'.tch h2 (fun hm => a3 x.1 hm x.1 (List.mem_map_of_mem hx) rfl), by omega, h3⟩
 ·rw [List.map_append, List.nodup_append]
  refine ⟨M'.apart, a2, fun a ha b hb hab => ?_⟩
  subst hab
  obtain ⟨x, hx, rfl⟩ := List.mem_map.1 ha
  rcases (M'.row x hx).2.2 with h | h
  ·exact a3 _ h _ hb rfl
  ·obtain ⟨y, hy, hyx⟩ := List.mem_map.1 hb
   have := (M.row y (List.mem_append_right _ hy)).2.1
   omega
theorem Mem.frameT (M : Mem S h0 h (xs ++ rs)) (M' : Mem (xs.map (·.1)) h h' (ys ++ T)) : Mem S h0 h' (ys ++ (rs ++ T)) := by
 have := M.frame M'
 rw [List.append_assoc] at this
 exact this.perm (List.Perm.append_left ys List.perm_append_comm)
theorem first_one {e' : TypeId} (k : RowH h b e' l) (hl : l.length = sz) : firstA h sz 1 (.sl b 0 1 sz) = some l := by
 rw [firstA_of_row (Nat.le_refl 1), Nat.one_mul]
 have := k.part (o := 0) (n := l.length) (by omega)
 rw [List.drop_zero, List.take_length] at this
 rw [← hl]
 exact this
theorem Wp.grow {K : AV → AHeap → R} {c : Nat} (M : Mem S h0 h ((c, e, r) :: xs ++ T)) (g : GrowT e sz rows v T) (he : elemOf P t = some e) (hu : notInt P u = true) (hsz : P.cellsOf e = sz) (hfit : fitB P e B = true) (hex : memB e h0.ex = false)
  (hr : r.length = sz) (hr1 : r.all AV.one = true) (hbig : (rows.length + 1) * B ≤ 1000000000) (hbig2 : rows.length + 1 ≤ 1000000000)
  (hk : ∀ v' h' T', GrowT e sz (rows ++ [r]) v' T' → Mem S h0 h' (xs ++ T') → Wp (K v' h') Q) : Wp (Abs.outK (opAppend P h t u v (.sl c 0 1 sz)) K) Q := by
 have kc : RowH h c e r := (M.row (c, e, r) (by simp)).1
 obtain ⟨v', h', T', a1, a2, a3⟩ := Mem.grow (xs := (c, e, r) :: xs) (x := .sl c 0 1 sz) M g he hu hsz hfit hex rfl (first_one kc hr) hr hr1 hbig hbig2
 refine Wp.outK a1 (hk v' h' T' a3 ?_)
 rw [List.cons_append] at a2
 exact a2.pop
end
end
end Go.Proofs.Yteibdplpbcobbaa.Abs
namespace Go.Proofs.Yteibdplpbcobbaa
open Go.RowKit Abs
def plainB (c : Nat) : Bool := decide (32 ≤ c) && decide (c ≤ 126)
def hexV (c : Nat) : Option Nat := if 48 ≤ c ∧ c ≤ 57 then some (c - 48) else if 97 ≤ c ∧ c ≤ 102 then some (c - 87) else none
def shortB (c : Nat) : Nat := if c = 34 ∨ c = 92 then c else if c = 10 then 110 else if c = 13 then 114 else if c = 9 then 116 else 0
def byD (c : Nat) : Bool := decide (shortB c = 0) && !plainB c
def mayB (hi : Nat) : Bool := decide (hi < 2) || decide (7 ≤ hi)
inductive FR where
 | ok (c p : Nat)
 | bad (p : Nat)
def at? (u : Bytes) (p : Nat) : Option Nat := (u[p]?).map UInt8.toNat
def hexAt (u : Bytes) (p : Nat) : FR := match (at? u p).bind hexV with
 | none => .bad p
 | some hi => if mayB hi = false then .bad p else match (at? u (p + 1)).bind hexV with
  | none => .bad (p + 1)
  | some lo => if byD (hi * 16 + lo) = true then .ok (hi * 16 + lo) (p + 2) else .bad (p + 1)
def escAt (u : Bytes) (p : Nat) : FR := match at? u p with
 | none => .bad p
 | some d => if d = 34 ∨ d = 92 then .ok d (p + 1) else if d = 110 then .ok 10 (p + 1) else if d = 114 then .ok 13 (p + 1) else if d = 116 then .ok 9 (p + 1) else if d = 120 then hexAt u (p + 1) else .bad p
def formAt (u : Bytes) (p : Nat) : FR := match at? u p with
 | none => .bad p
 | some a => if a = 92 then escAt u (p + 1) else if plainB a = true ∧ a ≠ 34 then .ok a (p + 1) else .bad p
theorem at?_lt {u : Bytes} {p : Nat} (h : p < u.length) : at? u p = some (u[p]).toNat := by
 unfold at?
 rw [List.getElem?_eq_getElem h]
 rfl
theorem at?_ge {u : Bytes} {p : Nat} (h : u.length ≤ p) : at? u p = none := by
 unfold at?
 rw [List.getElem?_eq_none h]
 rfl
theorem at?_some {u : Bytes} {p c : Nat} (h : at? u p = some c) : ∃ hp : p < u.length, (u[p]).toNat = c := by
 by_cases hp : p < u.length
 ·rw [at?_lt hp] at h
  exact ⟨hp, by simpa using h⟩
 ·rw [at?_ge (by omega)] at h
  cases h
theorem hexV_lt {c v : Nat} (h : hexV c = some v) : v < 16 ∧ c < 128 := by
 unfold hexV at h
 split at h
 ·simp at h; omega
 ·split at h
  ·simp at h; omega
  ·cases h
theorem hexAt_ok {u : Bytes} {p c q : Nat} (h : hexAt u p = .ok c q) : c < 256 ∧ q = p + 2 ∧ q ≤ u.length := by
 unfold hexAt at h
 split at h
 ·cases h
 ·rename_i hi h1
  split at h
  ·cases h
  ·split at h
   ·cases h
   ·rename_i lo h2
    split at h
    ·simp only [FR.ok.injEq] at h
     obtain ⟨rfl, rfl⟩ := h
     obtain ⟨a, _, ha⟩ := Option.bind_eq_some_iff.1 h1
     obtain ⟨b, hb0, hb⟩ := Option.bind_eq_some_iff.1 h2
     have := hexV_lt ha
     have := hexV_lt hb
     obtain ⟨hp, _⟩ := at?_some hb0
     omega
    ·cases h
theorem formAt_ok {u : Bytes} {p c q : Nat} (h : formAt u p = .ok c q) : c < 256 ∧ p < q ∧ q ≤ u.length := by
 unfold formAt at h
 split at h
 ·cases h
 ·rename_i a ha
  obtain ⟨hp, hpa⟩ := at?_some ha
  have hlt := (u[p]).toNat_lt
  split at h
  ·unfold escAt at h
   split at h
   ·cases h
   ·rename_i d hd
    obtain ⟨hp2, hpd⟩ := at?_some hd
    have hlt2 := (u[p + 1]).toNat_lt
    (repeat' split at h) <;> first | (simp only [FR.ok.injEq] at h; omega) | (cases h; done) | skip
    have := hexAt_ok h
    omega
  ·split at h
   ·simp only [FR.ok.injEq] at h
    omega
   ·cases h
theorem hexAt_bad {u : Bytes} {p q : Nat} (h : hexAt u p = .bad q) : q ≤ p + 1 ∧ p ≤ q ∧ (p ≤ u.length → q ≤ u.length) := by
 unfold hexAt at h
 split at h
 ·simp only [FR.bad.injEq] at h
  omega
 ·rename_i hi h1
  obtain ⟨a, ha0, _⟩ := Option.bind_eq_some_iff.1 h1
  obtain ⟨hp, _⟩ := at?_some ha0
  split at h
  ·simp only [FR.bad.injEq] at h
   omega
  ·split at h
   ·simp only [FR.bad.injEq] at h
    omega
   ·split at h
    ·cases h
    ·simp only [FR.bad.injEq] at h
     omega
theorem formAt_bad {u : Bytes} {p q : Nat} (h : formAt u p = .bad q) (hp : p ≤ u.length) : p ≤ q ∧ q ≤ u.length := by
 unfold formAt at h
 split at h
 ·simp only [FR.bad.injEq] at h
  omega
 ·rename_i a ha
  obtain ⟨hp, hpa⟩ := at?_some ha
  split at h
  ·unfold escAt at h
   split at h
   ·simp only [FR.bad.injEq] at h
    omega
   ·rename_i d hd
    obtain ⟨hp2, _⟩ := at?_some hd
    (repeat' split at h) <;> first | (cases h; done) | (simp only [FR.bad.injEq] at h; omega) | skip
    have := hexAt_bad h
    omega
  ·split at h
   ·cases h
   ·simp only [FR.bad.injEq] at h
    omega
inductive QR where
 | ok (l : Bytes) (p : Nat)
 | bad (e : Int) (p : Nat)
def scanQ (u : Bytes) (most : Int) : Nat → Nat → Bytes → QR
 | 0, p, _ => .bad 6 p
 | n + 1, p, acc => if at? u p = some 34 then .ok acc (p + 1) else if (acc.length : Int) = most then .bad 3 p else match formAt u p with
  | .ok c q => scanQ u most n q (acc ++ [UInt8.ofNat c])
  | .bad q => .bad 6 q
def quotedQ (u : Bytes) (most : Int) : QR := if at? u 0 = some 34 then scanQ u most (u.length + 1) 1 [] else .bad 6 0
def hx (v : Nat) : UInt8 := UInt8.ofNat (if v < 10 then 48 + v else 87 + v)
def signB (c : Nat) : Bytes := if c = 34 then [92, 34] else if c = 92 then [92, 92] else if c = 10 then [92, 110] else if c = 13 then [92, 114] else if c = 9 then [92, 116] else if plainB c = true then [UInt8.ofNat c] else [92, 120, hx (c / 16), hx (c % 16)]
def lcpN : Bytes → Bytes → Nat
 | a :: x, b :: w => if a = b then lcpN x w + 1 else 0
 | _, _ => 0
theorem lcpN_le : ∀ (x w : Bytes), lcpN x w ≤ x.length ∧ lcpN x w ≤ w.length
 | [], w => by simp [lcpN]
 | a :: x, [] => by simp [lcpN]
 | a :: x, b :: w => by
  have := lcpN_le x w
  rw [lcpN]
  split <;> simp only [List.length_cons] <;> omega
theorem lcpN_full : ∀ (x w : Bytes), lcpN x w = x.length → ∃ r, w = x ++ r
 | [], w, _ => ⟨w, rfl⟩
 | a :: x, [], h => by simp [lcpN] at h
 | a :: x, b :: w, h => by
  rw [lcpN] at h
  split at h
  ·rename_i hab
   subst hab
   obtain ⟨r, rfl⟩ := lcpN_full x w (by simpa using h)
   exact ⟨r, rfl⟩
  ·simp at h
theorem lcpN_append : ∀ (x r : Bytes), lcpN x (x ++ r) = x.length
 | [], r => by cases r <;> rfl
 | a :: x, r => by rw [List.cons_append, lcpN, if_pos rfl, lcpN_append x r]; rfl
def hexW (w : Bytes) : FR := match w with
 | [] => .bad 2
 | x :: w => match hexV x.toNat with
  | none => .bad 2
  | some hi => if mayB hi = false then .bad 2 else match w with
   | [] => .bad 3
   | y :: _ => match hexV y.toNat with
    | none => .bad 3
    | some lo => if byD (hi * 16 + lo) = true then .ok (hi * 16 + lo) 4 else .bad 3
def escW (w : Bytes) : FR := match w with
 | [] => .bad 1
 | d :: w => if d.toNat = 34 ∨ d.toNat = 92 then .ok d.toNat 2 else if d.toNat = 110 then .ok 10 2 else if d.toNat = 114 then .ok 13 2 else if d.toNat = 116 then .ok 9 2 else if d.toNat = 120 then hexW w else .bad 1
def formW (w : Bytes) : FR := match w with
 | [] => .bad 0
 | a :: w => if a.toNat = 92 then escW w else if plainB a.toNat = true ∧ a.toNat ≠ 34 then .ok a.toNat 1 else .bad 0
def shiftF (p : Nat) : FR → FR
 | .ok c k => .ok c (p + k)
 | .bad k => .bad (p + k)
theorem at?_drop (u : Bytes) (p i : Nat) : at? u (p + i) = (((u.drop p)[i]?).map UInt8.toNat) := by
 unfold at?
 rw [List.getElem?_drop]
theorem formAt_W (u : Bytes) (p : Nat) : formAt u p = shiftF p (formW (u.drop p)) := by
 have h0 := at?_drop u p 0
 have h1 := at?_drop u p 1
 have h2 := at?_drop u p 2
 have h3 := at?_drop u p 3
 rw [Nat.add_zero] at h0
 unfold formAt formW
 cases hw : u.drop p with
 | nil =>
  rw [hw] at h0
  rw [h0]
  rfl
 | cons a w =>
  rw [hw] at h0 h1 h2 h3
  rw [h0]
  simp only [List.getElem?_cons_zero, Option.map_some]
  by_cases ha : a.toNat = 92
  ·rw [if_pos ha, if_pos ha]
   unfold escAt escW
   rw [h1]
   cases w with
   | nil => rfl
   | cons b w =>
    simp only [List.getElem?_cons_succ, List.getElem?_cons_zero, Option.map_some]
    by_cases c1 : b.toNat = 34 ∨ b.toNat = 92
    ·rw [if_pos c1, if_pos c1]; rfl
    rw [if_neg c1, if_neg c1]
    by_cases c2 : b.toNat = 110
    ·rw [if_pos c2, if_pos c2]; rfl
    rw [if_neg c2, if_neg c2]
    by_cases c3 : b.toNat = 114
    ·rw [if_pos c3, if_pos c3]; rfl
    rw [if_neg c3, if_neg c3]
    by_cases c4 : b.toNat = 116
    ·rw [if_pos c4, if_pos c4]; rfl
    rw [if_neg c4, if_neg c4]
    by_cases c5 : b.toNat = 120
    ·rw [if_pos c5, if_pos c5]
     unfold hexAt hexW
     rw [show p + 1 + 1 = p + 2 from rfl, h2, show p + 2 + 1 = p + 3 from rfl, h3]
     cases w with
     | nil => rfl
     | cons x w =>
      simp only [List.getElem?_cons_succ, List.getElem?_cons_zero, Option.map_some, Option.bind_some]
      cases hexV x.toNat with
      | none => rfl
      | some hi =>
       simp only
       by_cases hm : mayB hi = false
       ·rw [if_pos hm, if_pos hm]; rfl
       rw [if_neg hm, if_neg hm]
       cases w with
       | nil => rfl
       | cons y w =>
        simp only [List.getElem?_cons_zero, Option.map_some, Option.bind_some]
        cases hexV y.toNat with
        | none => rfl
        | some lo =>
         simp only
         by_cases hb : byD (hi * 16 + lo) = true
         ·rw [if_pos hb, if_pos hb]; rfl
         ·rw [if_neg hb, if_neg hb]; rfl
    ·rw [if_neg c5, if_neg c5]; rfl
  ·rw [if_neg ha, if_neg ha]
   by_cases hp : plainB a.toNat = true ∧ a.toNat ≠ 34
   ·rw [if_pos hp, if_pos hp]; rfl
   ·rw [if_neg hp, if_neg hp]; rfl
theorem hexV_hx : ∀ v : Fin 16, hexV (hx v.val).toNat = some v.val := by decide
theorem hx_of {x : UInt8} {v : Nat} (h : hexV x.toNat = some v) : x = hx v := by
 have hv := hexV_lt h
 unfold hexV at h
 apply UInt8.toNat_inj.1
 unfold hx
 rw [UInt8.toNat_ofNat']
 split at h
 ·simp at h
  rw [if_pos (by omega), Nat.mod_eq_of_lt (by omega)]
  omega
 ·split at h
  ·simp at h
   rw [if_neg (by omega), Nat.mod_eq_of_lt (by omega)]
   omega
  ·cases h
theorem mayB_of {hi lo : Nat} (hh : hi < 16) (hl : lo < 16) (hb : byD (hi * 16 + lo) = true) : mayB hi = true := by
 have h : ∀ a b : Fin 16, byD (a.val * 16 + b.val) = true → mayB a.val = true := by decide
 exact h ⟨hi, hh⟩ ⟨lo, hl⟩ hb
inductive Cls (c : Nat) : Prop where
 | esc (e : UInt8) (h : signB c = [92, e]) (he : (c = 34 ∧ e = 34) ∨ (c = 92 ∧ e = 92) ∨ (c = 10 ∧ e = 110) ∨ (c = 13 ∧ e = 114) ∨ (c = 9 ∧ e = 116))
 | plain (h : signB c = [UInt8.ofNat c]) (hp : plainB c = true) (h1 : c ≠ 34) (h2 : c ≠ 92)
 | dig (h : signB c = [92, 120, hx (c / 16), hx (c % 16)]) (hb : byD c = true)
theorem cls (c : Nat) : Cls c := by
 by_cases c1 : c = 34
 ·exact .esc 34 (by unfold signB; rw [if_pos c1]) (.inl ⟨c1, rfl⟩)
 by_cases c2 : c = 92
 ·exact .esc 92 (by unfold signB; rw [if_neg c1, if_pos c2]) (.inr (.inl ⟨c2, rfl⟩))
 by_cases c3 : c = 10
 ·exact .esc 110 (by unfold signB; rw [if_neg c1, if_neg c2, if_pos c3]) (.inr (.inr (.inl ⟨c3, rfl⟩)))
 by_cases c4 : c = 13
 ·exact .esc 114 (by unfold signB; rw [if_neg c1, if_neg c2, if_neg c3, if_pos c4]) (.inr (.inr (.inr (.inl ⟨c4, rfl⟩))))
 by_cases c5 : c = 9
 ·exact .esc 116 (by unfold signB; rw [if_neg c1, if_neg c2, if_neg c3, if_neg c4, if_pos c5]) (.inr (.inr (.inr (.inr ⟨c5, rfl⟩))))
 by_cases c6 : plainB c = true
 ·exact .plain (by unfold signB; rw [if_neg c1, if_neg c2, if_neg c3, if_neg c4, if_neg c5, if_pos c6]) c6 c1 c2
 ·refine .dig (by unfold signB; rw [if_neg c1, if_neg c2, if_neg c3, if_neg c4, if_neg c5, if_neg c6]) ?_
  unfold byD shortB
  rw [if_neg (by omega), if_neg c3, if_neg c4, if_neg c5]
  simpa using c6
theorem ofNat_toNat {c : Nat} (h : c < 256) : (UInt8.ofNat c).toNat = c := by
 rw [UInt8.toNat_ofNat', Nat.mod_eq_of_lt (by omega)]
theorem formW_sign {c : Nat} (hc : c < 256) (r : Bytes) : formW (signB c ++ r) = .ok c (signB c).length := by
 rcases cls c with ⟨e, h, he⟩ | ⟨h, hp, h1, h2⟩ | ⟨h, hb⟩
 ·rw [h]
  rcases he with ⟨rfl, rfl⟩ | ⟨rfl, rfl⟩ | ⟨rfl, rfl⟩ | ⟨rfl, rfl⟩ | ⟨rfl, rfl⟩ <;> rfl
 ·rw [h]
  show (if (UInt8.ofNat c).toNat = 92 then _ else _) = _
  rw [ofNat_toNat hc, if_neg h2, if_pos ⟨hp, h1⟩]
  rfl
 ·rw [h]
  show hexW (hx (c / 16) :: hx (c % 16) :: r) = _
  have hh : c / 16 < 16 := by omega
  have hl : c % 16 < 16 := by omega
  have e1 := hexV_hx ⟨c / 16, hh⟩
  have e2 := hexV_hx ⟨c % 16, hl⟩
  have e3 : c / 16 * 16 + c % 16 = c := by omega
  simp only at e1 e2
  unfold hexW
  simp only [e1, e2, e3, hb, if_true]
  rw [if_neg (by rw [mayB_of hh hl (by rw [e3]; exact hb)]; simp)]
  rfl
theorem formW_ok {w : Bytes} {c k : Nat} (h : formW w = .ok c k) : c < 256 ∧ k = (signB c).length ∧ ∃ r, w = signB c ++ r := by
 unfold formW at h
 cases w with
 | nil => cases h
 | cons a w =>
  simp only at h
  have ha := a.toNat_lt
  by_cases h92 : a.toNat = 92
  ·rw [if_pos h92] at h
   have ea : a = 92 := UInt8.toNat_inj.1 h92
   subst ea
   unfold escW at h
   cases w with
   | nil => cases h
   | cons d w =>
    simp only at h
    by_cases c1 : d.toNat = 34 ∨ d.toNat = 92
    ·rw [if_pos c1] at h
     simp only [FR.ok.injEq] at h
     obtain ⟨rfl, rfl⟩ := h
     rcases c1 with c1 | c1
     ·have : d = 34 := UInt8.toNat_inj.1 c1
      subst this
      exact ⟨by decide, rfl, w, rfl⟩
     ·have : d = 92 := UInt8.toNat_inj.1 c1
      subst this
      exact ⟨by decide, rfl, w, rfl⟩
    rw [if_neg c1] at h
    by_cases c2 : d.toNat = 110
    ·rw [if_pos c2] at h
     have : d = 110 := UInt8.toNat_inj.1 c2
     subst this
     cases h
     exact ⟨by decide, rfl, w, rfl⟩
    rw [if_neg c2] at h
    by_cases c3 : d.toNat = 114
    ·rw [if_pos c3] at h
     have : d = 114 := UInt8.toNat_inj.1 c3
     subst this
     cases h
     exact ⟨by decide, rfl, w, rfl⟩
    rw [if_neg c3] at h
    by_cases c4 : d.toNat = 116
    ·rw [if_pos c4] at h
     have : d = 116 := UInt8.toNat_inj.1 c4
     subst this
     cases h
     exact ⟨by decide, rfl, w, rfl⟩
    rw [if_neg c4] at h
    by_cases c5 : d.toNat = 120
    ·rw [if_pos c5] at h
     have : d = 120 := UInt8.toNat_inj.1 c5
     subst this
     unfold hexW at h
     cases w with
     | nil => cases h
     | cons x w =>
      simp only at h
      cases hv : hexV x.toNat with
      | none => rw [hv] at h; cases h
      | some hi =>
       rw [hv] at h
       simp only at h
       split at h
       ·cases h
       ·cases w with
        | nil => cases h
        | cons y w =>
         simp only at h
         cases hv2 : hexV y.toNat with
         | none => rw [hv2] at h; cases h
         | some lo =>
          rw [hv2] at h
          simp only at h
          split at h
          ·rename_i hb
           simp only [FR.ok.injEq] at h
           obtain ⟨rfl, rfl⟩ := h
           have l1 := (hexV_lt hv).1
           have l2 := (hexV_lt hv2).1
           have s : signB (hi * 16 + lo) = [92, 120, hx hi, hx lo] := by
            rcases cls (hi * 16 + lo) with ⟨e, hs, he⟩ | ⟨hs, hp, h1, h2⟩ | ⟨hs, hb2⟩
            ·rcases he with ⟨he, _⟩ | ⟨he, _⟩ | ⟨he, _⟩ | ⟨he, _⟩ | ⟨he, _⟩ <;> (rw [he] at hb; exact absurd hb (by decide))
            ·unfold byD at hb
             rw [hp] at hb
             simp at hb
            ·rw [hs, show (hi * 16 + lo) / 16 = hi by omega, show (hi * 16 + lo) % 16 = lo by omega]
           rw [s, hx_of hv, hx_of hv2]
           exact ⟨by omega, rfl, w, rfl⟩
          ·cases h
    ·rw [if_neg c5] at h
     cases h
  ·rw [if_neg h92] at h
   split at h
   ·rename_i hp
    simp only [FR.ok.injEq] at h
    obtain ⟨rfl, rfl⟩ := h
    have s : signB a.toNat = [a] := by
     rcases cls a.toNat with ⟨e, hs, he⟩ | ⟨hs, _, _, _⟩ | ⟨hs, hb2⟩
     ·rcases he with ⟨he, _⟩ | ⟨he, _⟩ | ⟨he, _⟩ | ⟨he, _⟩ | ⟨he, _⟩
      ·exact absurd he hp.2
      ·exact absurd he h92
      all_goals (have := hp.1; rw [he] at this; exact absurd this (by decide))
     ·rw [hs]
      simp
     ·unfold byD at hb2
      rw [hp.1] at hb2
      simp at hb2
    rw [s]
    exact ⟨ha, rfl, w, rfl⟩
   ·cases h
abbrev digitsB : Bytes := [48, 49, 50, 51, 52, 53, 54, 55, 56, 57, 97, 98, 99, 100, 101, 102]
def ibV (k : Nat) : Int := match hexV k with
 | some v => (v : Int)
 | none => -1
noncomputable def ibArgs (k : Nat) : List AV := [strA digitsB, .int .u8 (k : Int)]
noncomputable def ibGo (k : Nat) : Bool := came (.ret (.int .i64 (ibV k))) (callA Try.prog (Memo.spec Try.prog 5000 []) 5000 30 87 (ibArgs k) ⟨0, [], .e⟩)
set_option maxRecDepth 100000 in
theorem ib_all : (List.range 256).all ibGo = true := by kernel_rfl
theorem ib_one {k : Nat} (hk : k < 256) : ibGo k = true := List.all_eq_true.1 ib_all k (List.mem_range.2 hk)
noncomputable def ibF : FnT := fun args h => match args with
 | [d, .int .u8 z] => @ite _ (d = strA digitsB ∧ 0 ≤ z ∧ z < 256) (Classical.propDecidable _) (some (.ret (.int .i64 (ibV z.toNat)), h)) none
 | _ => none
theorem ibF_holds : Holds Try.prog 87 ibF := by
 intro args h r h' e
 unfold ibF at e
 split at e
 ·rename_i d z
  split at e
  ·rename_i hk
   obtain ⟨rfl, h1, h2⟩ := hk
   obtain ⟨k, rfl⟩ := Int.eq_ofNat_of_zero_le h1
   simp only [Option.some.injEq, Prod.mk.injEq] at e
   obtain ⟨rfl, rfl⟩ := e
   exact Memo.says (by kernel_rfl) Memo.ok_nil rfl rfl (ib_one (k := k) (by omega)) h
  ·cases e
 ·cases e
theorem ibF_eq {k : Nat} (hk : k < 256) (h : AHeap) : ibF [strA digitsB, .int .u8 (k : Int)] h = some (.ret (.int .i64 (ibV k)), h) := by
 have : ibF [strA digitsB, .int .u8 (k : Int)] h = @ite _ (strA digitsB = strA digitsB ∧ 0 ≤ (k : Int) ∧ (k : Int) < 256) (Classical.propDecidable _) (some (.ret (.int .i64 (ibV (k : Int).toNat)), h)) none := rfl
 rw [this, if_pos ⟨rfl, by omega, by omega⟩]
 rfl
noncomputable def signGo (k : Nat) : Bool := came (.ret (strA (signB k))) (callA Try.prog (Memo.spec Try.prog 5000 []) 5000 30 32 [.int .u8 (k : Int)] ⟨0, [], .e⟩)
set_option maxRecDepth 100000 in
theorem sign_all : (List.range 256).all signGo = true := by kernel_rfl
theorem sign_one {k : Nat} (hk : k < 256) : signGo k = true := List.all_eq_true.1 sign_all k (List.mem_range.2 hk)
noncomputable def signF : FnT := fun args h => match args with
 | [.int .u8 z] => @ite _ (0 ≤ z ∧ z < 256) (Classical.propDecidable _) (some (.ret (strA (signB z.toNat)), h)) none
 | _ => none
theorem signF_holds : Holds Try.prog 32 signF := by
 intro args h r h' e
 unfold signF at e
 split at e
 ·rename_i z
  split at e
  ·rename_i hk
   obtain ⟨h1, h2⟩ := hk
   obtain ⟨k, rfl⟩ := Int.eq_ofNat_of_zero_le h1
   simp only [Option.some.injEq, Prod.mk.injEq] at e
   obtain ⟨rfl, rfl⟩ := e
   exact Memo.says (by kernel_rfl) Memo.ok_nil rfl rfl (sign_one (k := k) (by omega)) h
  ·cases e
 ·cases e
end Go.Proofs.Yteibdplpbcobbaa
namespace Go.Proofs.Yteibdplpbcobbaa.Abs
noncomputable section
open Go.RowKit
section
variable {P : Program} {w0 : Base} {m0 : Map} {N : Nat} {l l' : Fr} {ds : DefT} {h : AHeap} {Q : Exit → Act → World → Prop} {K : Act → World → Prop} {Y : OutT} {ops : Array Oper} {i : Nat}
theorem WL.a (d : Option Nat) (v : AV) (h' : AHeap) (hk : WL P w0 m0 N ops (i + 1) Q (l.put d v) ds h') (h1 : dstN N ops i = some d := by kernel_rfl) (h2 : wantAt ops l.get i = some true := by kernel_rfl) (h3 : opAt P l.eval ops i h = some (.val v, h') := by kernel_rfl) : WL P w0 m0 N ops i Q l ds h := WL.val h1 h2 h3 hk
theorem WL.b (d : Option Nat) (v : AV) (h' : AHeap) (x : Y = some (.val v, h')) (hk : WL P w0 m0 N ops (i + 1) Q (l.put d v) ds h') (h1 : dstN N ops i = some d := by kernel_rfl) (h2 : wantAt ops l.get i = some true := by kernel_rfl) (h3 : opAt P l.eval ops i h = Y := by kernel_rfl) : WL P w0 m0 N ops i Q l ds h := WL.val h1 h2 (h3.trans x) hk
theorem WL.e (h' : AHeap) (x : Y = some (.skip, h')) (hk : WL P w0 m0 N ops (i + 1) Q l ds h') (h1 : dstN N ops i = some none := by kernel_rfl) (h2 : wantAt ops l.get i = some true := by kernel_rfl) (h3 : opAt P l.eval ops i h = Y := by kernel_rfl) : WL P w0 m0 N ops i Q l ds h := WL.eff h1 h2 (h3.trans x) hk
theorem WL.o (d : Option Nat) (hk : WL P w0 m0 N ops (i + 1) Q (l.put d (.tup [])) ds h) (h1 : dstN N ops i = some d := by kernel_rfl) (h2 : wantAt ops l.get i = some false := by kernel_rfl) : WL P w0 m0 N ops i Q l ds h := WL.not h1 h2 hk
theorem WL.c {call : CallF} (hc : CallOK P w0 call) (d : Option Nat) {f : FuncId} {args : List AV} {v : AV} {h1 h' : AHeap} (hcall : call f args h1 = some (.ret v, h')) (hk : WL P w0 m0 N ops (i + 1) Q (l.put d v) ds h') (h2 : dstN N ops i = some d := by kernel_rfl) (h3 : wantAt ops l.get i = some true := by kernel_rfl) (h4 : opAt P l.eval ops i h = some (.call f args, h1) := by kernel_rfl) : WL P w0 m0 N ops i Q l ds h := WL.call hc h2 h3 h4 hcall hk
theorem WL.n (hk : Go w0 m0 N (Q .normal) l ds h) (hi : Nat.beq ops.size i = true := by kernel_rfl) : WL P w0 m0 N ops i Q l ds h := WL.nil hi hk
theorem WD.a {call : CallF} {plan : List Nat} {rs : List Rec} (k : Nat) (d : Option Nat) (v : AV) (h' : AHeap) (hk : WD P w0 m0 N call ops plan (recsD k (recAt P ops i l h) rs) K (l.put d v) ds h') (h1 : dstN N ops i = some d := by kernel_rfl) (h2 : wantAt ops l.get i = some true := by kernel_rfl) (h3 : opAt P l.eval ops i h = some (.val v, h') := by kernel_rfl)
  (h4 : kindD P ops i = k := by kernel_rfl) (h5 : Nat.beq k 2 = false := by kernel_rfl) (h6 : Nat.beq k 9 = false := by kernel_rfl) : WD P w0 m0 N call ops (i :: plan) rs K l ds h :=
 WD.val h1 h2 h3 h4 (fun e => by subst e; cases h5) (fun e => by subst e; cases h6) hk
theorem WD.b {call : CallF} {plan : List Nat} {rs : List Rec} (k : Nat) (d : Option Nat) (v : AV) (h' : AHeap) (x : Y = some (.val v, h')) (hk : WD P w0 m0 N call ops plan (recsD k (recAt P ops i l h) rs) K (l.put d v) ds h') (h1 : dstN N ops i = some d := by kernel_rfl) (h2 : wantAt ops l.get i = some true := by kernel_rfl) (h3 : opAt P l.eval ops i h = Y := by kernel_rfl)
  (h4 : kindD P ops i = k := by kernel_rfl) (h5 : Nat.beq k 2 = false := by kernel_rfl) (h6 : Nat.beq k 9 = false := by kernel_rfl) : WD P w0 m0 N call ops (i :: plan) rs K l ds h :=
 WD.val h1 h2 (h3.trans x) h4 (fun e => by subst e; cases h5) (fun e => by subst e; cases h6) hk
theorem W.r {c : Code} (hk : WL P w0 m0 N (Code.ops c) 0 Q l ds h) (hc : Code.kind c = 7 := by kernel_rfl) : W P w0 m0 N c Q l ds h := W.region hc hk
theorem W.s {c : Code} (hk : ∀ K : Exit → Act → World → Prop, (∀ {ds : DefT} {l : Fr} {h : AHeap}, W P w0 m0 N (Code.p2 c) Q l ds h → Go w0 m0 N (K .normal) l ds h) →
  (∀ {id : Nat} {ds : DefT} {l : Fr} {h : AHeap}, Go w0 m0 N (Q (.exit id)) l ds h → Go w0 m0 N (K (.exit id)) l ds h) → (∀ {ds : DefT} {l : Fr} {h : AHeap}, Go w0 m0 N (Q .ret) l ds h → Go w0 m0 N (K .ret) l ds h) →
  (∀ {ds : DefT} {l : Fr} {v : AV} {h : AHeap}, Pan w0 m0 N Q l ds v h → Pan w0 m0 N K l ds v h) → W P w0 m0 N (Code.p1 c) K l ds h) (hc : Code.kind c = 1 := by kernel_rfl) : W P w0 m0 N c Q l ds h := W.seqK hc hk
theorem W.t {c : Code} (hk : W P w0 m0 N (Code.p1 c) Q l ds h) (hc : Code.kind c = 2 := by kernel_rfl) (hv : l.eval (Code.opd c) = some (.bool true) := by kernel_rfl) : W P w0 m0 N c Q l ds h := W.cond_true hc hv hk
theorem W.f {c : Code} (hk : W P w0 m0 N (Code.p2 c) Q l ds h) (hc : Code.kind c = 2 := by kernel_rfl) (hv : l.eval (Code.opd c) = some (.bool false) := by kernel_rfl) : W P w0 m0 N c Q l ds h := W.cond_false hc hv hk
end
theorem Fr.c {l l' : Fr} {t : Nat} {v : AV} (k : l.sub l') (h : l.get t = some v := by kernel_rfl) : l.sub ((t, v) :: l') := Fr.sub_cons h k
theorem Fr.n {l : Fr} : l.sub [] := Fr.sub_nil l
end
end Go.Proofs.Yteibdplpbcobbaa.Abs
namespace Go.Proofs.Yteibdplpbcobbaa.Abs
noncomputable section
open Go.RowKit
section
variable {P : Program} {w0 : Base} {m0 : Map} {N : Nat} {l l' : Fr} {ds : DefT} {h : AHeap} {Q : Exit → Act → World → Prop} {K : Act → World → Prop} {Y : OutT} {ops : Array Oper} {i : Nat} {r : ARes × AHeap} {call : CallF}
theorem oB (d : Nat) {x : Bool} {k : Bool → R} (z : lett x k = some r) (hk : ∀ t, k t = some r → WL P w0 m0 N ops (i + 1) Q (l.put (some d) (.bool t)) ds h) (h1 : dstN N ops i = some (some d) := by kernel_rfl) (h2 : wantAt ops l.get i = some true := by kernel_rfl) (h3 : opAt P l.eval ops i h = some (.val (.bool x), h) := by kernel_rfl) : WL P w0 m0 N ops i Q l ds h := WL.val h1 h2 h3 (hk x z)
theorem oI (d : Nat) (c : IntKind) {x : Int} {k : Int → R} (z : lett x k = some r) (hk : ∀ t, k t = some r → WL P w0 m0 N ops (i + 1) Q (l.put (some d) (.int c t)) ds h) (h1 : dstN N ops i = some (some d) := by kernel_rfl) (h2 : wantAt ops l.get i = some true := by kernel_rfl) (h3 : opAt P l.eval ops i h = some (.val (.int c x), h) := by kernel_rfl) : WL P w0 m0 N ops i Q l ds h := WL.val h1 h2 h3 (hk x z)
theorem oN (d : Nat) {x : AHeap} {k : AHeap → R} (z : lett x k = some r) (hk : ∀ h', k h' = some r → WL P w0 m0 N ops (i + 1) Q (l.put (some d) (newP h)) ds h') (h1 : dstN N ops i = some (some d) := by kernel_rfl) (h2 : wantAt ops l.get i = some true := by kernel_rfl) (h3 : opAt P l.eval ops i h = some (.val (newP h), x) := by kernel_rfl) : WL P w0 m0 N ops i Q l ds h := WL.val h1 h2 h3 (hk x z)
theorem oA (d : Nat) (v : AV) (hk : WL P w0 m0 N ops (i + 1) Q (l.put (some d) v) ds h) (h1 : dstN N ops i = some (some d) := by kernel_rfl) (h2 : wantAt ops l.get i = some true := by kernel_rfl) (h3 : opAt P l.eval ops i h = some (.val v, h) := by kernel_rfl) : WL P w0 m0 N ops i Q l ds h := WL.val h1 h2 h3 hk
theorem oW (t : TypeId) (v : AV) {n : Nat} {cs : List AV} {p : AV} {k : AHeap → R} (z : obind (stRow h n cs p) k = some r) (hk : ∀ h', k h' = some r → WL P w0 m0 N ops (i + 1) Q l ds h') (a0 : cs = v.cells := by kernel_rfl) (a1 : (P.info? t).isSome = true := by kernel_rfl) (a2 : P.cellsOf t = n := by kernel_rfl) (h1 : dstN N ops i = some none := by kernel_rfl) (h2 : wantAt ops l.get i = some true := by kernel_rfl) (h3 : opAt P l.eval ops i h = opStore P h t (some p) (some v) := by kernel_rfl) : WL P w0 m0 N ops i Q l ds h := by
 obtain ⟨h', e, z1⟩ := obind_some z
 subst a0
 exact WL.eff h1 h2 (h3.trans (store_row a1 a2 e)) (hk h' z1)
theorem oL (d t : Nat) {x : AV} {k : AV → R} (z : obind (ldCell h x) k = some r) (hk : ∀ v, k v = some r → WL P w0 m0 N ops (i + 1) Q (l.put (some d) v) ds h) (a1 : aggO P t = some false := by kernel_rfl) (h1 : dstN N ops i = some (some d) := by kernel_rfl) (h2 : wantAt ops l.get i = some true := by kernel_rfl) (h3 : opAt P l.eval ops i h = opLoad P h t (some x) := by kernel_rfl) : WL P w0 m0 N ops i Q l ds h := by
 obtain ⟨v, e, z1⟩ := obind_some z
 exact WL.val h1 h2 (h3.trans (load_cell a1 e)) (hk v z1)
theorem oLi (d t : Nat) {c : IntKind} {x : AV} {k : Int → R} (z : (obind (ldCell h x) fun v => obind (avInt c v) k) = some r) (hk : ∀ v, k v = some r → WL P w0 m0 N ops (i + 1) Q (l.put (some d) (.int c v)) ds h) (a1 : aggO P t = some false := by kernel_rfl) (h1 : dstN N ops i = some (some d) := by kernel_rfl) (h2 : wantAt ops l.get i = some true := by kernel_rfl) (h3 : opAt P l.eval ops i h = opLoad P h t (some x) := by kernel_rfl) : WL P w0 m0 N ops i Q l ds h := by
 obtain ⟨v, e, z1⟩ := obind_some z
 obtain ⟨n, c1, z2⟩ := obind_some z1
 have c2 := avInt_some c1
 subst c2
 exact WL.val h1 h2 (h3.trans (load_cell a1 e)) (hk n z2)
theorem oLb (d t : Nat) {x : AV} {k : Bool → R} (z : (obind (ldCell h x) fun v => obind (avBool v) k) = some r) (hk : ∀ v, k v = some r → WL P w0 m0 N ops (i + 1) Q (l.put (some d) (.bool v)) ds h) (a1 : aggO P t = some false := by kernel_rfl) (h1 : dstN N ops i = some (some d) := by kernel_rfl) (h2 : wantAt ops l.get i = some true := by kernel_rfl) (h3 : opAt P l.eval ops i h = opLoad P h t (some x) := by kernel_rfl) : WL P w0 m0 N ops i Q l ds h := by
 obtain ⟨v, e, z1⟩ := obind_some z
 obtain ⟨n, c1, z2⟩ := obind_some z1
 have c2 := avBool_some c1
 subst c2
 exact WL.val h1 h2 (h3.trans (load_cell a1 e)) (hk n z2)
theorem oLs (d t : Nat) {x : AV} {k : Bytes → R} (z : (obind (ldCell h x) fun v => obind (avStr v) k) = some r) (hk : ∀ v, k v = some r → WL P w0 m0 N ops (i + 1) Q (l.put (some d) (strA v)) ds h) (a1 : aggO P t = some false := by kernel_rfl) (h1 : dstN N ops i = some (some d) := by kernel_rfl) (h2 : wantAt ops l.get i = some true := by kernel_rfl) (h3 : opAt P l.eval ops i h = opLoad P h t (some x) := by kernel_rfl) : WL P w0 m0 N ops i Q l ds h := by
 obtain ⟨v, e, z1⟩ := obind_some z
 obtain ⟨n, c1, z2⟩ := obind_some z1
 have c2 := avStr_some c1
 subst c2
 exact WL.val h1 h2 (h3.trans (load_cell a1 e)) (hk n z2)
theorem oR (d t : Nat) {n : Nat} {x : AV} {k : List AV → R} (z : obind (ldRow h n x) k = some r) (hk : ∀ v, k v = some r → WL P w0 m0 N ops (i + 1) Q (l.put (some d) (.agg v)) ds h) (a1 : aggO P t = some true := by kernel_rfl) (a2 : P.cellsOf t = n := by kernel_rfl) (h1 : dstN N ops i = some (some d) := by kernel_rfl) (h2 : wantAt ops l.get i = some true := by kernel_rfl) (h3 : opAt P l.eval ops i h = opLoad P h t (some x) := by kernel_rfl) : WL P w0 m0 N ops i Q l ds h := by
 obtain ⟨v, e, z1⟩ := obind_some z
 exact WL.val h1 h2 (h3.trans (load_row a1 a2 e)) (hk v z1)
theorem oF (d s f : Nat) {off : Nat} {x : AV} {k : AV → R} (z : obind (fldP off x) k = some r) (hk : ∀ v, k v = some r → WL P w0 m0 N ops (i + 1) Q (l.put (some d) v) ds h) (a1 : (match P.underlying s with
  | some (.struct fs) => match fs[f]? with
   | some g => Nat.blt 0 (P.cellsOf g.type) && Nat.beq g.offset off
   | none => false
  | _ => false) = true := by kernel_rfl) (h1 : dstN N ops i = some (some d) := by kernel_rfl) (h2 : wantAt ops l.get i = some true := by kernel_rfl) (h3 : opAt P l.eval ops i h = opFieldAddr P h s f (some x) := by kernel_rfl) : WL P w0 m0 N ops i Q l ds h := by
 obtain ⟨v, e, z1⟩ := obind_some z
 exact WL.val h1 h2 (h3.trans (field_ptr a1 e)) (hk v z1)
theorem oX (d t : Nat) (c : IntKind) {s : Bytes} {j : Int} {k : Int → R} (z : obind (idxS s j) k = some r) (hk : ∀ v, k v = some r → WL P w0 m0 N ops (i + 1) Q (l.put (some d) (.int .u8 v)) ds h) (a1 : P.underlying t = some .string := by kernel_rfl) (h1 : dstN N ops i = some (some d) := by kernel_rfl) (h2 : wantAt ops l.get i = some true := by kernel_rfl) (h3 : opAt P l.eval ops i h = opIndex P h t (some (strA s)) (some (.int c j)) := by kernel_rfl) : WL P w0 m0 N ops i Q l ds h := by
 obtain ⟨v, e, z1⟩ := obind_some z
 exact WL.val h1 h2 (h3.trans (index_str a1 e)) (hk v z1)
theorem oP (d t e' : Nat) (c : IntKind) {sz : Nat} {x : AV} {j : Int} {k : AV → R} (z : obind (idxP sz x j) k = some r) (hk : ∀ v, k v = some r → WL P w0 m0 N ops (i + 1) Q (l.put (some d) v) ds h) (a1 : elemOf P t = some e' := by kernel_rfl) (a2 : (P.info? e').isSome = true := by kernel_rfl) (a3 : P.cellsOf e' = sz := by kernel_rfl) (h1 : dstN N ops i = some (some d) := by kernel_rfl) (h2 : wantAt ops l.get i = some true := by kernel_rfl) (h3 : opAt P l.eval ops i h = opIndexAddr P h t (some x) (some (.int c j)) := by kernel_rfl) : WL P w0 m0 N ops i Q l ds h := by
 obtain ⟨v, e, z1⟩ := obind_some z
 exact WL.val h1 h2 (h3.trans (index_row a1 a2 a3 e)) (hk v z1)
theorem oQ (d t e' : Nat) (c : IntKind) {n sz : Nat} {x : AV} {j : Int} {k : AV → R} (z : obind (idxA n sz x j) k = some r) (hk : ∀ v, k v = some r → WL P w0 m0 N ops (i + 1) Q (l.put (some d) v) ds h) (a1 : P.underlying t = some (.array n e') := by kernel_rfl) (a2 : (P.info? e').isSome = true := by kernel_rfl) (a3 : P.cellsOf e' = sz := by kernel_rfl) (h1 : dstN N ops i = some (some d) := by kernel_rfl) (h2 : wantAt ops l.get i = some true := by kernel_rfl) (h3 : opAt P l.eval ops i h = opIndexAddr P h t (some x) (some (.int c j)) := by kernel_rfl) : WL P w0 m0 N ops i Q l ds h := by
 obtain ⟨v, e, z1⟩ := obind_some z
 exact WL.val h1 h2 (h3.trans (index_arr a1 a2 a3 e)) (hk v z1)
theorem oC0 (d : Nat) {x : AV} {k : AV → R} (z : obind (nilC x) k = some r) (hk : ∀ v, k v = some r → WL P w0 m0 N ops (i + 1) Q (l.put (some d) v) ds h) (h1 : dstN N ops i = some (some d) := by kernel_rfl) (h2 : wantAt ops l.get i = some true := by kernel_rfl) (h3 : opAt P l.eval ops i h = opNil h (some x) := by kernel_rfl) : WL P w0 m0 N ops i Q l ds h := by
 obtain ⟨v, e, z1⟩ := obind_some z
 exact WL.val h1 h2 (h3.trans (nil_chk e)) (hk v z1)
theorem oM (d t e' : Nat) {x : AV} {k : Int → R} (z : obind (lenL x) k = some r) (hk : ∀ v, k v = some r → WL P w0 m0 N ops (i + 1) Q (l.put (some d) (.int .i64 v)) ds h) (a1 : P.underlying t = some (.slice e') := by kernel_rfl) (h1 : dstN N ops i = some (some d) := by kernel_rfl) (h2 : wantAt ops l.get i = some true := by kernel_rfl) (h3 : opAt P l.eval ops i h = opLen P h t x := by kernel_rfl) : WL P w0 m0 N ops i Q l ds h := by
 obtain ⟨v, e, z1⟩ := obind_some z
 exact WL.val h1 h2 (h3.trans (len_row a1 e)) (hk v z1)
theorem oE (d : Nat) {j : Nat} {x : AV} {k : AV → R} (z : obind (extT j x) k = some r) (hk : ∀ v, k v = some r → WL P w0 m0 N ops (i + 1) Q (l.put (some d) v) ds h) (h1 : dstN N ops i = some (some d) := by kernel_rfl) (h2 : wantAt ops l.get i = some true := by kernel_rfl) (h3 : opAt P l.eval ops i h = opExtract h j (some x) := by kernel_rfl) : WL P w0 m0 N ops i Q l ds h := by
 obtain ⟨v, e, z1⟩ := obind_some z
 exact WL.val h1 h2 (h3.trans (extract_tup e)) (hk v z1)
theorem oEi (d : Nat) {c : IntKind} {j : Nat} {x : AV} {k : Int → R} (z : (obind (extT j x) fun v => obind (avInt c v) k) = some r) (hk : ∀ v, k v = some r → WL P w0 m0 N ops (i + 1) Q (l.put (some d) (.int c v)) ds h) (h1 : dstN N ops i = some (some d) := by kernel_rfl) (h2 : wantAt ops l.get i = some true := by kernel_rfl) (h3 : opAt P l.eval ops i h = opExtract h j (some x) := by kernel_rfl) : WL P w0 m0 N ops i Q l ds h := by
 obtain ⟨v, e, z1⟩ := obind_some z
 obtain ⟨n, c1, z2⟩ := obind_some z1
 have c2 := avInt_some c1
 subst c2
 exact WL.val h1 h2 (h3.trans (extract_tup e)) (hk n z2)
theorem oEb (d : Nat) {j : Nat} {x : AV} {k : Bool → R} (z : (obind (extT j x) fun v => obind (avBool v) k) = some r) (hk : ∀ v, k v = some r → WL P w0 m0 N ops (i + 1) Q (l.put (some d) (.bool v)) ds h) (h1 : dstN N ops i = some (some d) := by kernel_rfl) (h2 : wantAt ops l.get i = some true := by kernel_rfl) (h3 : opAt P l.eval ops i h = opExtract h j (some x) := by kernel_rfl) : WL P w0 m0 N ops i Q l ds h := by
 obtain ⟨v, e, z1⟩ := obind_some z
 obtain ⟨n, c1, z2⟩ := obind_some z1
 have c2 := avBool_some c1
 subst c2
 exact WL.val h1 h2 (h3.trans (extract_tup e)) (hk n z2)
theorem oEs (d : Nat) {j : Nat} {x : AV} {k : Bytes → R} (z : (obind (extT j x) fun v => obind (avStr v) k) = some r) (hk : ∀ v, k v = some r → WL P w0 m0 N ops (i + 1) Q (l.put (some d) (strA v)) ds h) (h1 : dstN N ops i = some (some d) := by kernel_rfl) (h2 : wantAt ops l.get i = some true := by kernel_rfl) (h3 : opAt P l.eval ops i h = opExtract h j (some x) := by kernel_rfl) : WL P w0 m0 N ops i Q l ds h := by
 obtain ⟨v, e, z1⟩ := obind_some z
 obtain ⟨n, c1, z2⟩ := obind_some z1
 have c2 := avStr_some c1
 subst c2
 exact WL.val h1 h2 (h3.trans (extract_tup e)) (hk n z2)
theorem oEa (d : Nat) {j : Nat} {x : AV} {k : List AV → R} (z : (obind (extT j x) fun v => obind (avAgg v) k) = some r) (hk : ∀ v, k v = some r → WL P w0 m0 N ops (i + 1) Q (l.put (some d) (.agg v)) ds h) (h1 : dstN N ops i = some (some d) := by kernel_rfl) (h2 : wantAt ops l.get i = some true := by kernel_rfl) (h3 : opAt P l.eval ops i h = opExtract h j (some x) := by kernel_rfl) : WL P w0 m0 N ops i Q l ds h := by
 obtain ⟨v, e, z1⟩ := obind_some z
 obtain ⟨n, c1, z2⟩ := obind_some z1
 have c2 := avAgg_some c1
 subst c2
 exact WL.val h1 h2 (h3.trans (extract_tup e)) (hk n z2)
theorem oC (hc : SaysAll P call) (d : Option Nat) {f : FuncId} {args : List AV} {h1 : AHeap} {k : AV → AHeap → R} (z : callN (call f args h1) k = some r) (hk : ∀ v h', k v h' = some r → WL P w0 m0 N ops (i + 1) Q (l.put d v) ds h') (b1 : dstN N ops i = some d := by kernel_rfl) (b2 : wantAt ops l.get i = some true := by kernel_rfl) (b3 : opAt P l.eval ops i h = some (.call f args, h1) := by kernel_rfl) : WL P w0 m0 N ops i Q l ds h := by
 obtain ⟨v, h', e, z1⟩ := callN_some z
 exact WL.call (hc.ok w0) b1 b2 b3 e (hk v h' z1)
theorem oCi (hc : SaysAll P call) (d : Nat) {c : IntKind} {f : FuncId} {args : List AV} {h1 : AHeap} {k : Int → AHeap → R} (z : (callN (call f args h1) fun v h' => obind (avInt c v) fun n => k n h') = some r) (hk : ∀ v h', k v h' = some r → WL P w0 m0 N ops (i + 1) Q (l.put (some d) (.int c v)) ds h') (b1 : dstN N ops i = some (some d) := by kernel_rfl) (b2 : wantAt ops l.get i = some true := by kernel_rfl) (b3 : opAt P l.eval ops i h = some (.call f args, h1) := by kernel_rfl) : WL P w0 m0 N ops i Q l ds h := by
 obtain ⟨v, h', e, z1⟩ := callN_some z
 obtain ⟨n, c1, z2⟩ := obind_some z1
 have c2 := avInt_some c1
 subst c2
 exact WL.call (hc.ok w0) b1 b2 b3 e (hk n h' z2)
theorem oCb (hc : SaysAll P call) (d : Nat) {f : FuncId} {args : List AV} {h1 : AHeap} {k : Bool → AHeap → R} (z : (callN (call f args h1) fun v h' => obind (avBool v) fun n => k n h') = some r) (hk : ∀ v h', k v h' = some r → WL P w0 m0 N ops (i + 1) Q (l.put (some d) (.bool v)) ds h') (b1 : dstN N ops i = some (some d) := by kernel_rfl) (b2 : wantAt ops l.get i = some true := by kernel_rfl) (b3 : opAt P l.eval ops i h = some (.call f args, h1) := by kernel_rfl) : WL P w0 m0 N ops i Q l ds h := by
 obtain ⟨v, h', e, z1⟩ := callN_some z
 obtain ⟨n, c1, z2⟩ := obind_some z1
 have c2 := avBool_some c1
 subst c2
 exact WL.call (hc.ok w0) b1 b2 b3 e (hk n h' z2)
theorem oCs (hc : SaysAll P call) (d : Nat) {f : FuncId} {args : List AV} {h1 : AHeap} {k : Bytes → AHeap → R} (z : (callN (call f args h1) fun v h' => obind (avStr v) fun n => k n h') = some r) (hk : ∀ v h', k v h' = some r → WL P w0 m0 N ops (i + 1) Q (l.put (some d) (strA v)) ds h') (b1 : dstN N ops i = some (some d) := by kernel_rfl) (b2 : wantAt ops l.get i = some true := by kernel_rfl) (b3 : opAt P l.eval ops i h = some (.call f args, h1) := by kernel_rfl) : WL P w0 m0 N ops i Q l ds h := by
 obtain ⟨v, h', e, z1⟩ := callN_some z
 obtain ⟨n, c1, z2⟩ := obind_some z1
 have c2 := avStr_some c1
 subst c2
 exact WL.call (hc.ok w0) b1 b2 b3 e (hk n h' z2)
theorem oCa (hc : SaysAll P call) (d : Nat) {f : FuncId} {args : List AV} {h1 : AHeap} {k : List AV → AHeap → R} (z : (callN (call f args h1) fun v h' => obind (avAgg v) fun n => k n h') = some r) (hk : ∀ v h', k v h' = some r → WL P w0 m0 N ops (i + 1) Q (l.put (some d) (.agg v)) ds h') (b1 : dstN N ops i = some (some d) := by kernel_rfl) (b2 : wantAt ops l.get i = some true := by kernel_rfl) (b3 : opAt P l.eval ops i h = some (.call f args, h1) := by kernel_rfl) : WL P w0 m0 N ops i Q l ds h := by
 obtain ⟨v, h', e, z1⟩ := callN_some z
 obtain ⟨n, c1, z2⟩ := obind_some z1
 have c2 := avAgg_some c1
 subst c2
 exact WL.call (hc.ok w0) b1 b2 b3 e (hk n h' z2)
theorem oK (d : Nat) {x : OutT} {k : AV → AHeap → R} (z : outK x k = some r) (hk : ∀ v h', k v h' = some r → WL P w0 m0 N ops (i + 1) Q (l.put (some d) v) ds h') (b1 : dstN N ops i = some (some d) := by kernel_rfl) (b2 : wantAt ops l.get i = some true := by kernel_rfl) (b3 : opAt P l.eval ops i h = x := by kernel_rfl) : WL P w0 m0 N ops i Q l ds h := by
 obtain ⟨v, h', e, z1⟩ := outK_some z
 exact WL.val b1 b2 (b3.trans e) (hk v h' z1)
theorem oT {c : Code} {a b : R} (z : ifB true a b = some r) (hk : a = some r → W P w0 m0 N (Code.p1 c) Q l ds h) (hc : Code.kind c = 2 := by kernel_rfl) (hv : l.eval (Code.opd c) = some (.bool true) := by kernel_rfl) : W P w0 m0 N c Q l ds h := W.cond_true hc hv (hk z)
theorem oU {c : Code} {a b : R} (z : ifB false a b = some r) (hk : b = some r → W P w0 m0 N (Code.p2 c) Q l ds h) (hc : Code.kind c = 2 := by kernel_rfl) (hv : l.eval (Code.opd c) = some (.bool false) := by kernel_rfl) : W P w0 m0 N c Q l ds h := W.cond_false hc hv (hk z)
theorem oG {c : Code} (hk : ∀ {K : Exit → Act → World → Prop}, (∀ {ds : DefT} {l : Fr} {h : AHeap}, W P w0 m0 N (Code.p2 c) Q l ds h → Go w0 m0 N (K .normal) l ds h) → W P w0 m0 N (Code.p1 c) K l ds h) (hc : Code.kind c = 1 := by kernel_rfl) : W P w0 m0 N c Q l ds h := W.seqK hc fun _ n _ _ _ => hk n
theorem oH {c : Code} (hk : ∀ {K : Exit → Act → World → Prop}, (∀ {ds : DefT} {l : Fr} {h : AHeap}, W P w0 m0 N (Code.p2 c) Q l ds h → Go w0 m0 N (K .normal) l ds h) → (∀ {ds : DefT} {l : Fr} {h : AHeap}, Go w0 m0 N (Q .ret) l ds h → Go w0 m0 N (K .ret) l ds h) → W P w0 m0 N (Code.p1 c) K l ds h) (hc : Code.kind c = 1 := by kernel_rfl) : W P w0 m0 N c Q l ds h := W.seqK hc fun _ n _ q _ => hk n q
theorem oJ {c : Code} (hk : ∀ {K : Exit → Act → World → Prop}, (∀ {ds : DefT} {l : Fr} {h : AHeap}, W P w0 m0 N (Code.p2 c) Q l ds h → Go w0 m0 N (K .normal) l ds h) → (∀ {ds : DefT} {l : Fr} {v : AV} {h : AHeap}, Pan w0 m0 N Q l ds v h → Pan w0 m0 N K l ds v h) → W P w0 m0 N (Code.p1 c) K l ds h) (hc : Code.kind c = 1 := by kernel_rfl) : W P w0 m0 N c Q l ds h := W.seqK hc fun _ n _ _ p => hk n p
theorem oY {c : Code} (hk : Go w0 m0 N (Q .ret) l ds h) (hc : Code.kind c = 6 := by kernel_rfl) : W P w0 m0 N c Q l ds h := W.ret hc hk
theorem oZ {c : Code} (hk : Go w0 m0 N (Q .normal) l ds h) (hc : Code.kind c = 0 := by kernel_rfl) : W P w0 m0 N c Q l ds h := W.skip hc hk
theorem rT {g : Nat → Option AV} {t : Nat} {v : AV} {rs : List ResultVar} {vs : List AV} (k : resGs P g h rs = some vs) (e : g t = some v := by kernel_rfl) : resGs P g h (.tmp t :: rs) = some (v :: vs) := res_tmp e k
theorem rY {g : Nat → Option AV} {t ty n : Nat} {p : AV} {v : List AV} {rs : List ResultVar} {vs : List AV} (e2 : ldRow h n p = some v) (k : resGs P g h rs = some vs) (e : g t = some p := by kernel_rfl) (ha : aggO P ty = some true := by kernel_rfl) (hn : P.cellsOf ty = n := by kernel_rfl) : resGs P g h (.cell t ty :: rs) = some (.agg v :: vs) := res_cell e (load_row ha hn e2) k
theorem rC {g : Nat → Option AV} {t ty : Nat} {p v : AV} {rs : List ResultVar} {vs : List AV} (e2 : ldCell h p = some v) (k : resGs P g h rs = some vs) (e : g t = some p := by kernel_rfl) (ha : aggO P ty = some false := by kernel_rfl) : resGs P g h (.cell t ty :: rs) = some (v :: vs) := res_cell e (load_cell ha e2) k
theorem lZ {fn : Func} {v : AV} {rR : ARes} {hR : AHeap} (z : some (ARes.ret v, h) = some (rR, hR)) (rs : List ResultVar) (vs : List AV) (hv : resGs P l.get h rs = some vs) (hrs : fn.results.toList = rs := by kernel_rfl) (hr : retA h (some vs) = some (.ret v, h) := by kernel_rfl) : Go w0 m0 N (Fin P fn w0 m0 rR hR .ret) l [] h := by
 obtain ⟨e1, e2⟩ := ret_inj z
 subst e1
 subst e2
 exact leave_of hrs hv hr
theorem lY {fn : Func} {v : AV} {rR : ARes} {hR : AHeap} (z : some (ARes.ret v, h) = some (rR, hR)) (rs : List ResultVar) (vs : List AV) (hv : resGs P l.get h rs = some vs) (hrs : fn.results.toList = rs := by kernel_rfl) (hr : retA h (some vs) = some (.ret v, h) := by kernel_rfl) : Go w0 m0 N (Fin P fn w0 m0 rR hR .normal) l [] h := by
 obtain ⟨e1, e2⟩ := ret_inj z
 subst e1
 subst e2
 exact leaveN_of hrs hv hr
theorem oD {plan : List Nat} {rs : List Rec} (k : Nat) (d : Option Nat) (hk : WD P w0 m0 N call ops plan rs K (l.put d (.tup [])) ds h) (h1 : dstN N ops i = some d := by kernel_rfl) (h2 : wantAt ops l.get i = some false := by kernel_rfl) (h4 : kindD P ops i = k := by kernel_rfl) (h5 : Nat.beq k 2 = false := by kernel_rfl) (h6 : Nat.beq k 9 = false := by kernel_rfl) : WD P w0 m0 N call ops (i :: plan) rs K l ds h := WD.not h1 h2 h4 (fun e => by subst e; cases h5) (fun e => by subst e; cases h6) hk
theorem sub_of {l : Fr} : ∀ {l' : Fr}, l'.map (fun p => l.get p.1) = l'.map (fun p => some p.2) → l.sub l'
 | [], _ => Fr.sub_nil _
 | (t, v) :: l', h => by
  simp only [List.map_cons, List.cons.injEq] at h
  exact Fr.sub_cons h.1 (sub_of h.2)
theorem oV (l' : Fr) (hk : Go w0 m0 N (Q .normal) l' ds h) (hs : l'.map (fun p => l.get p.1) = l'.map (fun p => some p.2) := by kernel_rfl) (hi : Nat.beq ops.size i = true := by kernel_rfl) : WL P w0 m0 N ops i Q l ds h := WL.nil hi (Go.weaken (sub_of hs) hk)
theorem gW (l' : Fr) (hk : Go w0 m0 N K l' ds h) (hs : l'.map (fun p => l.get p.1) = l'.map (fun p => some p.2) := by kernel_rfl) : Go w0 m0 N K l ds h := Go.weaken (sub_of hs) hk
theorem wW {c : Code} (l' : Fr) (hk : W P w0 m0 N c Q l' ds h) (hs : l'.map (fun p => l.get p.1) = l'.map (fun p => some p.2) := by kernel_rfl) : W P w0 m0 N c Q l ds h := W.weaken (sub_of hs) hk
theorem lW (l' : Fr) (hk : WL P w0 m0 N ops i Q l' ds h) (hs : l'.map (fun p => l.get p.1) = l'.map (fun p => some p.2) := by kernel_rfl) : WL P w0 m0 N ops i Q l ds h := WL.weaken (sub_of hs) hk
theorem Pf {v : AV} {h' : AHeap} {fn : Func} {rR : ARes} {hR : AHeap} (q : (rR, hR) = (ARes.panic v, h')) : Pan w0 m0 N (Fin P fn w0 m0 rR hR) l [] v h' := by
 cases q
 exact Pan.fin
theorem oCK (hc : SaysAll P call) (d : Option Nat) {f : FuncId} {args : List AV} {h1 : AHeap} {k : AV → AHeap → R} (z : callK (call f args h1) k = some r) (hp : ∀ {v : AV} {h' : AHeap}, r = (.panic v, h') → Pan w0 m0 N Q l ds v h') (hk : ∀ v h', k v h' = some r → WL P w0 m0 N ops (i + 1) Q (l.put d v) ds h') (b1 : dstN N ops i = some d := by kernel_rfl) (b2 : wantAt ops l.get i = some true := by kernel_rfl) (b3 : opAt P l.eval ops i h = some (.call f args, h1) := by kernel_rfl) : WL P w0 m0 N ops i Q l ds h := by
 rcases callK_some z with ⟨v, h', e, z1⟩ | ⟨v, h', e, q⟩
 ·exact WL.call (hc.ok w0) b1 b2 b3 e (hk v h' z1)
 ·exact WL.callPanic (hc.ok w0) b1 b2 b3 e (hp q)
theorem sO {f : FuncId} {fn : Func} {args : List AV} {rR : ARes} {hR : AHeap} (hf : P.funcs[f]? = some fn) (hw : ∀ w0 m0, W P w0 m0 fn.ntmps (codeOf fn) (Fin P fn w0 m0 rR hR) (argsFr 0 args) [] h) (hb : fn.body = some (codeOf fn) := by kernel_rfl) (hlen : Nat.ble args.length fn.ntmps = true := by kernel_rfl) : Says P f args h rR hR := says_of hf hb hlen hw
end
structure Dec (α : Type) where
 dec : AV → Option α
 enc : α → AV
 ok : ∀ {x : AV} {a : α}, dec x = some a → x = enc a
 eq : ∀ a : α, dec (enc a) = some a
def Di (k : IntKind) : Dec Int := ⟨avInt k, .int k, avInt_some, avInt_int k⟩
def Ds : Dec Bytes := ⟨avStr, strA, avStr_some, avStr_str⟩
def Da : Dec (List AV) := ⟨avAgg, .agg, avAgg_some, avAgg_agg⟩
def Dv : Dec AV := ⟨some, fun x => x, fun h => by cases h; rfl, fun _ => rfl⟩
section
variable {α β γ δ ε ζ : Type} {P : Program} {id : FuncId} {h : AHeap}
def fn0 (F : AHeap → R) : FnT := fun args h => match args with
 | [] => F h
 | _ => none
theorem fn0_eq (F : AHeap → R) (h : AHeap) : fn0 F [] h = F h := rfl
theorem fn0_holds {F : AHeap → R} (k : ∀ {h r h'}, F h = some (r, h') → Says P id [] h r h') : Holds P id (fn0 F) := by
 intro args h r h2 e
 unfold fn0 at e
 split at e
 ·exact k e
 ·cases e
def fn1 (d0 : Dec α) (F : α → AHeap → R) : FnT := fun args h => match args with
 | [x0] => obind (d0.dec x0) fun a0 => F a0 h
 | _ => none
theorem fn1_eq (d0 : Dec α) (F : α → AHeap → R) (a0 : α) (h : AHeap) : fn1 d0 F [d0.enc a0] h = F a0 h := by
 unfold fn1
 dsimp only
 rw [d0.eq, obind_val]
theorem fn1_holds (d0 : Dec α) {F : α → AHeap → R} (k : ∀ {a0} {h r h'}, F a0 h = some (r, h') → Says P id [d0.enc a0] h r h') : Holds P id (fn1 d0 F) := by
 intro args h r h2 e
 unfold fn1 at e
 split at e
 ·replace e := obind_some e; obtain ⟨a0, c0, e⟩ := e; have c0 := d0.ok c0; subst c0
  exact k e
 ·cases e
def fn2 (d0 : Dec α) (d1 : Dec β) (F : α → β → AHeap → R) : FnT := fun args h => match args with
 | [x0, x1] => obind (d0.dec x0) fun a0 => obind (d1.dec x1) fun a1 => F a0 a1 h
 | _ => none
theorem fn2_eq (d0 : Dec α) (d1 : Dec β) (F : α → β → AHeap → R) (a0 : α) (a1 : β) (h : AHeap) : fn2 d0 d1 F [d0.enc a0, d1.enc a1] h = F a0 a1 h := by
 unfold fn2
 dsimp only
 rw [d0.eq, obind_val, d1.eq, obind_val]
theorem fn2_holds (d0 : Dec α) (d1 : Dec β) {F : α → β → AHeap → R} (k : ∀ {a0 a1} {h r h'}, F a0 a1 h = some (r, h') → Says P id [d0.enc a0, d1.enc a1] h r h') : Holds P id (fn2 d0 d1 F) := by
 intro args h r h2 e
 unfold fn2 at e
 split at e
 ·replace e := obind_some e; obtain ⟨a0, c0, e⟩ := e; have c0 := d0.ok c0; subst c0
  replace e := obind_some e; obtain ⟨a1, c1, e⟩ := e; have c1 := d1.ok c1; subst c1
  exact k e
 ·cases e
def fn3 (d0 : Dec α) (d1 : Dec β) (d2 : Dec γ) (F : α → β → γ → AHeap → R) : FnT := fun args h => match args with
 | [x0, x1, x2] => obind (d0.dec x0) fun a0 => obind (d1.dec x1) fun a1 => obind (d2.dec x2) fun a2 => F a0 a1 a2 h
 | _ => none
theorem fn3_eq (d0 : Dec α) (d1 : Dec β) (d2 : Dec γ) (F : α → β → γ → AHeap → R) (a0 : α) (a1 : β) (a2 : γ) (h : AHeap) : fn3 d0 d1 d2 F [d0.enc a0, d1.enc a1, d2.enc a2] h = F a0 a1 a2 h := by
 unfold fn3
 dsimp only
 rw [d0.eq, obind_val, d1.eq, obind_val, d2.eq, obind_val]
theorem fn3_holds (d0 : Dec α) (d1 : Dec β) (d2 : Dec γ) {F : α → β → γ → AHeap → R} (k : ∀ {a0 a1 a2} {h r h'}, F a0 a1 a2 h = some (r, h') → Says P id [d0.enc a0, d1.enc a1, d2.enc a2] h r h') : Holds P id (fn3 d0 d1 d2 F) := by
 intro args h r h2 e
 unfold fn3 at e
 split at e
 ·replace e := obind_some e; obtain ⟨a0, c0, e⟩ := e; have c0 := d0.ok c0; subst c0
  replace e := obind_some e; obtain ⟨a1, c1, e⟩ := e; have c1 := d1.ok c1; subst c1
  replace e := obind_some e; obtain ⟨a2, c2, e⟩ := e; have c2 := d2.ok c2; subst c2
  exact k e
 ·cases e
end
end
end Go.Proofs.Yteibdplpbcobbaa.Abs
namespace Go.Proofs.Yteibdplpbcobbaa
open Go.RowKit Abs
set_option maxHeartbeats 4000000
set_option maxRecDepth 20000
noncomputable abbrev Pg : Program := Try.prog
theorem oS {α : Type} {x : Option α} {k : α → R} {r : ARes × AHeap} (h : obind x k = some r) : ∃ a, x = some a ∧ k a = some r := obind_some h
theorem lS {α : Type} {v : α} {k : α → R} {r : ARes × AHeap} (h : lett v k = some r) : ∃ x, x = v ∧ k x = some r := lett_some h
noncomputable def pattern_guard_1_d (_ : CallF) (_ : Nat) (t0 : AV) (x : AV) (h : AHeap) : R :=
 outK (opBin Pg h .neq 20 true (some x) (some AV.nifc)) fun v6 h_2 =>
 obind (avBool v6) fun t6 =>
 lett (fun  (h_6 : AHeap) =>
  some (.ret (.tup []), h_6)) fun k5 =>
 ifB t6
 (
  outK (opAssert Pg h_2 91 true (some x)) fun v9 h_8 =>
  obind (extT 0 v9) fun v10 =>
  obind (avAgg v10) fun t10 =>
  obind (extT 1 v9) fun v11 =>
  obind (avBool v11) fun t11 =>
  lett (newH h_8 91 [.int .i64 0, .int .i64 0]) fun h_14 =>
  obind (stRow h_14 2 t10 (newP h_8)) fun h_16 =>
  lett (!t11) fun (t13 : Bool) =>
  lett (fun  (h_22 : AHeap) =>
   obind (ldRow h_22 2 (AV.ptr (AHeap.next h_8) 0)) fun t16 =>
   obind (stRow h_22 2 t16 t0) fun h_24 =>
   k5 h_24) fun k21 =>
  ifB t13
  (
   none)
  (
   k21 h_16))
 (
  k5 h_2)
theorem pattern_guard_1_d_ok {call : CallF} (_ : SaysAll Pg call) {n : Nat} {t0 : AV} {x : AV} {u : Option AV} (hu : u.getD .nifc = x) {h : AHeap} {rR : ARes} {hR : AHeap} (z : pattern_guard_1_d call n t0 x h = some (rR, hR)) : DSays Pg 53 [t0] u h none hR := by
 unfold pattern_guard_1_d at z
 subst hu
 refine dsays_of (fn := Try.f53) (u' := none) (h1 := h) (l := [(1, (u.getD .nifc)), (4, (u.getD .nifc)), (0, t0)]) Try.func53 (c := codeOf Try.f53) (by kernel_rfl) (by kernel_rfl) (by kernel_rfl) (by kernel_rfl) (by kernel_rfl) (by kernel_rfl) (by kernel_rfl) (fun w0 m0 => ?_)
 refine wW [(0, t0), (1, (u.getD .nifc))] ?_
 refine oG fun n1 => W.r ?_
 refine oA 5 (u.getD .nifc) ?_
 replace z := outK_some z; obtain ⟨v6, h_2, e3, z⟩ := z
 replace z := oS z; obtain ⟨t6, c4, z⟩ := z
 have c4 := avBool_some c4
 subst c4
 refine WL.b (some 6) (.bool t6) h_2 e3 ?_
 refine oV [(0, t0), (1, (u.getD .nifc)), (6, .bool t6)] (n1 ?_)
 obtain ⟨k5, e5, z⟩ := lS z
 have J5 : ∀  (h_6 : AHeap), k5 h_6 = some (rR, hR) → Go w0 m0 (Func.ntmps Try.f53) (DFin w0 m0 hR .normal) [] [] h_6 := by
  intro  h_6 z
  rw [e5] at z
  obtain ⟨z, hF2⟩ := ret_inj z; subst hF2
  exact Go.dleave
 cases t6 with
 | true =>
  refine oT z fun z => ?_
  refine oG fun n7 => W.r ?_
  refine oA 8 (u.getD .nifc) ?_
  refine oK 9 z fun v9 h_8 z => ?_
  refine oA 7 v9 ?_
  refine oEa 10 z fun t10 z => ?_
  refine oEb 11 z fun t11 z => ?_
  refine oN 2 z fun h_14 z => ?_
  refine oW 91 (.agg t10) z fun h_16 z => ?_
  refine oA 3 (.bool t11) ?_
  refine oV [(0, t0), (1, (u.getD .nifc)), (2, newP h_8), (3, .bool t11)] (n7 ?_)
  refine W.s (fun K18 n18 _ _ _ => ?_)
  refine oG fun n19 => W.r ?_
  refine oA 12 (.bool t11) ?_
  refine oB 13 z fun t13 z => ?_
  refine oV [(0, t0), (1, (u.getD .nifc)), (2, newP h_8), (13, .bool t13)] (n19 ?_)
  obtain ⟨k21, e21, z⟩ := lS z
  have J21 : ∀  (h_22 : AHeap), k21 h_22 = some (rR, hR) → Go w0 m0 (Func.ntmps Try.f53) (K18 .normal) [(0, t0), (2, newP h_8)] [] h_22 := by
   intro  h_22 z
   rw [e21] at z
   refine n18 (W.r ?_)
   refine oA 15 (AV.ptr (AHeap.next h_8) 0) ?_
   refine oR 16 27 z fun t16 z => ?_
   refine oW 27 (.agg t16) z fun h_24 z => ?_
   refine oV [] ?_
   exact gW _ (J5 _ z)
  cases t13 with
  | true =>
   refine oT z fun z => ?_
   refine W.r ?_
   refine oA 14 (u.getD .nifc) ?_
   cases z
  | false =>
   refine oU z fun z => ?_
   refine oZ ?_
   exact gW _ (J21 _ z)
 | false =>
  refine oU z fun z => ?_
  refine oZ ?_
  exact gW _ (J5 _ z)
noncomputable def pattern_guard (call : CallF) (n : Nat) (t0 : AV) (h : AHeap) : R :=
 lett (newH h 27 [.int .i64 0, .int .i64 0]) fun h_2 =>
 callKd (dynC Pg call t0 [] h_2) (fun pv h_14 =>
  callN (pattern_guard_1_d call n (newP h) pv h_14) fun _ h_15 =>
  obind (ldRow h_15 2 (newP h)) fun w2_18 =>
  some (.ret (.agg w2_18), h_15)) fun _ h_6 =>
 obind (stRow h_6 2 ([.int .i64 0, .int .i64 0] : List AV) (newP h)) fun h_9 =>
 callN (pattern_guard_1_d call n (newP h) .nifc h_9) fun _ h_11 =>
 obind (ldRow h_11 2 (newP h)) fun w2 =>
 some (.ret (.agg w2), h_11)
theorem pattern_guard_ok {call : CallF} (hc : SaysAll Pg call) {n : Nat} {t0 : AV} {h : AHeap} {rR : ARes} {hR : AHeap} (z : pattern_guard call n t0 h = some (rR, hR)) : Says Pg 35 [t0] h rR hR := by
 unfold pattern_guard at z
 refine sO Try.func35 fun w0 m0 => ?_
 refine wW [(0, t0)] ?_
 refine oG fun n1 => W.r ?_
 refine oN 2 z fun h_2 z => ?_
 refine oV [(0, t0), (2, newP h)] (n1 ?_)
 refine oG fun n4 => W.r ?_
 refine oA 3 (AV.fn 53 [] [(newP h)]) ?_
 refine WL.dfr (d := none) (f := 53) (args := []) (cap := [(newP h)]) (h' := h_2) (by kernel_rfl) (by kernel_rfl) (by kernel_rfl) ?_
 refine oV [(0, t0), (2, newP h)] (n4 ?_)
 refine oJ fun n5 p5 => W.r ?_
 refine oA 4 t0 ?_
 replace z := callKd_some z; rcases z with ⟨r5, h_6, e7, z⟩ | ⟨pv, h_14, e7, z⟩
 ·rcases dynC_some e7 with ⟨d19g, d19as, d19h, d191, d192⟩ | ⟨d19v, d19h, d191, d192⟩
  rotate_left
  ·cases d192
   refine WL.val (d := (some 5)) (by kernel_rfl) (by kernel_rfl) (Eq.trans (by kernel_rfl) d191) ?_
   refine oV [(2, newP h)] (n5 ?_)
   refine W.s (fun K8 n8 e8 q8 p8 => ?_)
   refine W.r ?_
   refine oA 6 (.agg ([.int .i64 0, .int .i64 0] : List AV)) ?_
   obtain ⟨h_9, e10, z⟩ := oS z
   refine WL.e h_9 (store_row (P := Pg) (h := h_6) (t := 27) (v := (.agg ([.int .i64 0, .int .i64 0] : List AV))) (by kernel_rfl) (by kernel_rfl) e10) ?_
   refine oV [(2, newP h)] (n8 (oY ?_))
   obtain ⟨_, h_11, e12, z⟩ := callN_some z
   obtain ⟨w2, e13, z⟩ := oS z
   obtain ⟨z, hF2⟩ := ret_inj z; subst z; subst hF2
   exact Go.leaveD (by kernel_rfl) (pattern_guard_1_d_ok hc (u := none) rfl e12) (ends_of (rs := [.cell 2 27]) (vs := [.agg w2]) (by kernel_rfl) (res_cell (by kernel_rfl) (load_row (P := Pg) (h := h_11) (t := 27) (by kernel_rfl) (by kernel_rfl) e13) res_nil) (by kernel_rfl))
  ·refine WL.call (hc.ok w0) (d := (some 5)) (by kernel_rfl) (by kernel_rfl) (Eq.trans (by kernel_rfl) d191) d192 ?_
   refine oV [(2, newP h)] (n5 ?_)
   refine W.s (fun K8 n8 e8 q8 p8 => ?_)
   refine W.r ?_
   refine oA 6 (.agg ([.int .i64 0, .int .i64 0] : List AV)) ?_
   obtain ⟨h_9, e10, z⟩ := oS z
   refine WL.e h_9 (store_row (P := Pg) (h := h_6) (t := 27) (v := (.agg ([.int .i64 0, .int .i64 0] : List AV))) (by kernel_rfl) (by kernel_rfl) e10) ?_
   refine oV [(2, newP h)] (n8 (oY ?_))
   obtain ⟨_, h_11, e12, z⟩ := callN_some z
   obtain ⟨w2, e13, z⟩ := oS z
   obtain ⟨z, hF2⟩ := ret_inj z; subst z; subst hF2
   exact Go.leaveD (by kernel_rfl) (pattern_guard_1_d_ok hc (u := none) rfl e12) (ends_of (rs := [.cell 2 27]) (vs := [.agg w2]) (by kernel_rfl) (res_cell (by kernel_rfl) (load_row (P := Pg) (h := h_11) (t := 27) (by kernel_rfl) (by kernel_rfl) e13) res_nil) (by kernel_rfl))
 ·obtain ⟨_, h_15, e16, z⟩ := callN_some z
  obtain ⟨w2_18, e17, z⟩ := oS z
  obtain ⟨z, hF2⟩ := ret_inj z; subst z; subst hF2
  rcases dynC_some e7 with ⟨d19g, d19as, d19h, d191, d192⟩ | ⟨d19v, d19h, d191, d192⟩
  ·exact WL.callPanic (hc.ok w0) (d := (some 5)) (by kernel_rfl) (by kernel_rfl) (Eq.trans (by kernel_rfl) d191) d192 (p5 (Pan.leaveD (by kernel_rfl) (pattern_guard_1_d_ok hc (u := (some pv)) rfl e16) (ends_of (rs := [.cell 2 27]) (vs := [.agg w2_18]) (by kernel_rfl) (res_cell (by kernel_rfl) (load_row (P := Pg) (h := h_15) (t := 27) (by kernel_rfl) (by kernel_rfl) e17) res_nil) (by kernel_rfl))))
  ·cases d192
noncomputable def pattern_reader_quoted_L0b (call : CallF) (t0 : AV) (t1 : Int) (h_3 : AHeap) (k10 : AHeap → R) (self : AHeap → R) (h_17 : AHeap) : R :=
 callN (call 55 [t0, .int .u8 34] h_17) fun r9 h_20 =>
 obind (avBool r9) fun t9 =>
 lett (!t9) fun (t10 : Bool) =>
 ifB t10
 (
  callN (call 56 [(newP h_3)] h_20) fun r11 h_27 =>
  obind (avInt .i64 r11) fun t11 =>
  lett ((t11 : Int) == t1) fun (t13 : Bool) =>
  lett (fun  (h_32 : AHeap) =>
   callK (call 58 [t0] h_32) fun r20 h_33 =>
   obind (avInt .u8 r20) fun t20 =>
   callN (call 29 [(newP h_3), .int .u8 t20] h_33) fun _ h_36 =>
   self h_36) fun k31 =>
  ifB t13
  (
   obind (nilC t0) fun t15 =>
   obind (fldP 1 t15) fun t16 =>
   obind (ldCell h_27 t16) fun v17 =>
   obind (avInt .i64 v17) fun t17 =>
   callK (call 57 [.int .i64 3, .int .i64 t17] h_27) fun _ h_43 =>
   k31 h_43)
  (
   k31 h_27))
 (
  k10 h_20)
noncomputable def pattern_reader_quoted_L0 (call : CallF) (t0 : AV) (t1 : Int) (h_3 : AHeap) (k10 : AHeap → R) : Nat → AHeap → R := iterR (fun _ => none) (pattern_reader_quoted_L0b call t0 t1 h_3 k10)
theorem pattern_reader_quoted_L0_s (call : CallF) (t0 : AV) (t1 : Int) (h_3 : AHeap) (k10 : AHeap → R) (m : Nat) : pattern_reader_quoted_L0 call t0 t1 h_3 k10 (m + 1) = pattern_reader_quoted_L0b call t0 t1 h_3 k10 (pattern_reader_quoted_L0 call t0 t1 h_3 k10 m) := rfl
noncomputable def pattern_reader_quoted (call : CallF) (n : Nat) (t0 : AV) (t1 : Int) (h : AHeap) : R :=
 callK (call 54 [t0, .int .u8 34] h) fun _ h_3 =>
 lett (newH h_3 57 [.nilp, .nsl]) fun h_6 =>
 lett (fun  (h_11 : AHeap) =>
  callN (call 31 [(newP h_3)] h_11) fun r22 h_13 =>
  obind (avStr r22) fun t22 =>
  some (.ret (strA t22), h_13)) fun k10 =>
 pattern_reader_quoted_L0 call t0 t1 h_3 k10 n  h_6
theorem pattern_reader_quoted_ok {call : CallF} (hc : SaysAll Pg call) {n : Nat} {t0 : AV} {t1 : Int} {h : AHeap} {rR : ARes} {hR : AHeap} (z : pattern_reader_quoted call n t0 t1 h = some (rR, hR)) : Says Pg 37 [t0, .int .i64 t1] h rR hR := by
 unfold pattern_reader_quoted at z
 refine sO Try.func37 fun w0 m0 => ?_
 refine wW [(0, t0), (1, .int .i64 t1)] ?_
 refine oG fun n1 => W.r ?_
 refine oA 4 (strA ([] : Bytes)) ?_
 refine oV [(0, t0), (1, .int .i64 t1)] (n1 ?_)
 refine oJ fun n2 p2 => W.r ?_
 refine oA 6 t0 ?_
 refine oCK hc (some 7) z (fun q => p2 (Pf q)) fun r7 h_3 z => ?_
 refine oV [(0, t0), (1, .int .i64 t1)] (n2 ?_)
 refine oG fun n5 => W.r ?_
 refine oN 5 z fun h_6 z => ?_
 refine oV [(0, t0), (1, .int .i64 t1), (5, newP h_3)] (n5 ?_)
 refine W.s (fun K8 n8 _ _ p8 => ?_)
 obtain ⟨k10, e10, z⟩ := lS z
 have J10 : ∀  (h_11 : AHeap), k10 h_11 = some (rR, hR) → Go w0 m0 (Func.ntmps Try.f37) (K8 .normal) [(5, newP h_3)] [] h_11 := by
  intro  h_11 z
  rw [e10] at z
  refine n8 ?_
  refine oG fun n12 => W.r ?_
  refine oCs hc 22 z fun t22 h_13 z => ?_
  refine oA 4 (strA t22) ?_
  refine oV [(4, strA t22)] (n12 (oY ?_))
  exact lZ z [.tmp 4] [strA t22] (rT res_nil)
 refine W.blockK (by kernel_rfl) (fun K9 n9 s9 o9 q9 p9 => ?_)
 refine W.loopK (by kernel_rfl) (fun I16 K16 b16 n16 e16 q16 p16 => ?_)
 have L16 : ∀ (m : Nat)  (h_17 : AHeap), pattern_reader_quoted_L0 call t0 t1 h_3 k10 m  h_17 = some (rR, hR) → Go w0 m0 (Func.ntmps Try.f37) I16 [(0, t0), (1, .int .i64 t1), (5, newP h_3)] [] h_17 := by
  intro m
  induction m with
  | zero => intro  h_17 z; cases z
  | succ m ih16 =>
   intro  h_17 z
   rw [pattern_reader_quoted_L0_s] at z; unfold pattern_reader_quoted_L0b at z
   refine b16 ?_
   refine W.s (fun _ n18 e18 _ _ => ?_)
   refine oG fun n19 => W.r ?_
   refine oA 8 t0 ?_
   refine oCb hc 9 z fun t9 h_20 z => ?_
   refine oB 10 z fun t10 z => ?_
   refine oV [(0, t0), (1, .int .i64 t1), (5, newP h_3), (10, .bool t10)] (n19 ?_)
   cases t10 with
   | true =>
    refine oT z fun z => ?_
    refine oZ (n18 ?_)
    refine W.blockK (by kernel_rfl) (fun K24 n24 s24 o24 q24 p24 => ?_)
    refine W.s (fun K25 n25 _ _ p25 => ?_)
    refine oG fun n26 => W.r ?_
    refine oCi hc 11 z fun t11 h_27 z => ?_
    refine oA 12 (.int .i64 t1) ?_
    refine oB 13 z fun t13 z => ?_
    refine oV [(0, t0), (1, .int .i64 t1), (5, newP h_3), (13, .bool t13)] (n26 ?_)
    obtain ⟨k31, e31, z⟩ := lS z
    have J31 : ∀  (h_32 : AHeap), k31 h_32 = some (rR, hR) → Go w0 m0 (Func.ntmps Try.f37) (K25 .normal) [(0, t0), (1, .int .i64 t1), (5, newP h_3)] [] h_32 := by
     intro  h_32 z
     rw [e31] at z
     refine n25 (W.r ?_)
     refine oA 19 t0 ?_
     refine oCK hc (some 20) z (fun q => p24 (p16 (p9 (p8 (Pf q))))) fun r20 h_33 z => ?_
     replace z := oS z; obtain ⟨t20, c35, z⟩ := z
     have c35 := avInt_some c35
     subst c35
     refine oC hc (some 21) z fun r21 h_36 z => ?_
     refine oV [(0, t0), (1, .int .i64 t1), (5, newP h_3)] (n24 (n16 ?_))
     exact gW _ (ih16 _ z)
    cases t13 with
    | true =>
     refine oT z fun z => ?_
     refine W.r ?_
     refine oA 14 t0 ?_
     refine oC0 15 z fun t15 z => ?_
     refine oF 16 70 1 z fun t16 z => ?_
     refine oLi 17 3 z fun t17 z => ?_
     refine oCK hc (some 18) z (fun q => p25 (p24 (p16 (p9 (p8 (Pf q)))))) fun r18 h_43 z => ?_
     refine oV [(0, t0), (1, .int .i64 t1), (5, newP h_3)] ?_
     exact gW _ (J31 _ z)
    | false =>
     refine oU z fun z => ?_
     refine oZ ?_
     exact gW _ (J31 _ z)
   | false =>
    refine oU z fun z => ?_
    refine W.exit (by kernel_rfl) ?_
    refine e18 (e16 ?_)
    refine s9 (by kernel_rfl) ?_
    exact gW _ (J10 _ z)
 exact gW _ (L16 _ _ z)
noncomputable def pattern_reader_take (call : CallF) (_ : Nat) (t0 : AV) (t1 : Int) (h : AHeap) : R :=
 callN (call 55 [t0, .int .u8 t1] h) fun r6 h_2 =>
 obind (avBool r6) fun t6 =>
 lett (!t6) fun (t7 : Bool) =>
 lett (fun  (h_7 : AHeap) =>
  some (.ret (.tup []), h_7)) fun k6 =>
 ifB t7
 (
  obind (nilC t0) fun t9 =>
  obind (fldP 1 t9) fun t10 =>
  obind (ldCell h_2 t10) fun v11 =>
  obind (avInt .i64 v11) fun t11 =>
  callK (call 57 [.int .i64 6, .int .i64 t11] h_2) fun _ h_12 =>
  k6 h_12)
 (
  k6 h_2)
theorem pattern_reader_take_ok {call : CallF} (hc : SaysAll Pg call) {n : Nat} {t0 : AV} {t1 : Int} {h : AHeap} {rR : ARes} {hR : AHeap} (z : pattern_reader_take call n t0 t1 h = some (rR, hR)) : Says Pg 54 [t0, .int .u8 t1] h rR hR := by
 unfold pattern_reader_take at z
 refine sO Try.func54 fun w0 m0 => ?_
 refine wW [(0, t0), (1, .int .u8 t1)] ?_
 refine oG fun n1 => W.r ?_
 refine oA 4 t0 ?_
 refine oA 5 (.int .u8 t1) ?_
 refine oCb hc 6 z fun t6 h_2 z => ?_
 refine oB 7 z fun t7 z => ?_
 refine oV [(0, t0), (7, .bool t7)] (n1 ?_)
 obtain ⟨k6, e6, z⟩ := lS z
 have J6 : ∀  (h_7 : AHeap), k6 h_7 = some (rR, hR) → Go w0 m0 (Func.ntmps Try.f54) (Fin Pg Try.f54 w0 m0 rR hR .normal) [] [] h_7 := by
  intro  h_7 z
  rw [e6] at z
  exact lY z [] [] res_nil
 cases t7 with
 | true =>
  refine oT z fun z => ?_
  refine W.r ?_
  refine oA 8 t0 ?_
  refine oC0 9 z fun t9 z => ?_
  refine oF 10 70 1 z fun t10 z => ?_
  refine oLi 11 3 z fun t11 z => ?_
  refine oCK hc (some 12) z (fun q => Pf q) fun r12 h_12 z => ?_
  refine oV [] ?_
  exact gW _ (J6 _ z)
 | false =>
  refine oU z fun z => ?_
  refine oZ ?_
  exact gW _ (J6 _ z)
noncomputable def pattern_reader_skips (call : CallF) (_ : Nat) (t0 : AV) (t1 : Int) (h : AHeap) : R :=
 callN (call 68 [t0, .int .u8 t1] h) fun r7 h_4 =>
 obind (avBool r7) fun t7 =>
 lett (!t7) fun (t8 : Bool) =>
 ifB t8
 (
  some (.ret (.bool false), h_4))
 (
  obind (nilC t0) fun t10 =>
  obind (fldP 1 t10) fun t11 =>
  obind (ldCell h_4 t11) fun v12 =>
  obind (avInt .i64 v12) fun t12 =>
  lett (IntKind.i64.wrap (t12 + 1)) fun (t13 : Int) =>
  obind (nilC t0) fun t14 =>
  obind (fldP 1 t14) fun t15 =>
  obind (stRow h_4 1 [.int .i64 t13] t15) fun h_17 =>
  some (.ret (.bool true), h_17))
theorem pattern_reader_skips_ok {call : CallF} (hc : SaysAll Pg call) {n : Nat} {t0 : AV} {t1 : Int} {h : AHeap} {rR : ARes} {hR : AHeap} (z : pattern_reader_skips call n t0 t1 h = some (rR, hR)) : Says Pg 55 [t0, .int .u8 t1] h rR hR := by
 unfold pattern_reader_skips at z
 refine sO Try.func55 fun w0 m0 => ?_
 refine wW [(0, t0), (1, .int .u8 t1)] ?_
 refine oG fun n1 => W.r ?_
 refine oA 4 (.bool false) ?_
 refine oV [(0, t0), (1, .int .u8 t1)] (n1 ?_)
 refine oH fun n2 q2 => ?_
 refine oG fun n3 => W.r ?_
 refine oA 5 t0 ?_
 refine oA 6 (.int .u8 t1) ?_
 refine oCb hc 7 z fun t7 h_4 z => ?_
 refine oB 8 z fun t8 z => ?_
 refine oV [(0, t0), (8, .bool t8)] (n3 ?_)
 cases t8 with
 | true =>
  refine oT z fun z => ?_
  refine oG fun n8 => W.r ?_
  refine oA 4 (.bool false) ?_
  refine oV [(4, .bool false)] (n8 (oY (q2 ?_)))
  exact lZ z [.tmp 4] [.bool false] (rT res_nil)
 | false =>
  refine oU z fun z => ?_
  refine oZ (n2 ?_)
  refine oG fun n9 => W.r ?_
  refine oA 9 t0 ?_
  refine oC0 10 z fun t10 z => ?_
  refine oF 11 70 1 z fun t11 z => ?_
  refine oLi 12 3 z fun t12 z => ?_
  refine oI 13 .i64 z fun t13 z => ?_
  refine oC0 14 z fun t14 z => ?_
  refine oF 15 70 1 z fun t15 z => ?_
  refine oW 3 (.int .i64 t13) z fun h_17 z => ?_
  refine oV [] (n9 ?_)
  refine oG fun n19 => W.r ?_
  refine oA 4 (.bool true) ?_
  refine oV [(4, .bool true)] (n19 (oY ?_))
  exact lZ z [.tmp 4] [.bool true] (rT res_nil)
noncomputable def pattern_reader_sees (call : CallF) (_ : Nat) (t0 : AV) (t1 : Int) (h : AHeap) : R :=
 lett (fun (t4 : Bool) (h_4 : AHeap) =>
  some (.ret (.bool t4), h_4)) fun k3 =>
 callN (call 74 [t0] h) fun r6 h_5 =>
 obind (avBool r6) fun t6 =>
 lett (!t6) fun (t7 : Bool) =>
 ifB t7
 (
  obind (nilC t0) fun t10 =>
  obind (fldP 0 t10) fun t11 =>
  obind (ldCell h_5 t11) fun v12 =>
  obind (avStr v12) fun t12 =>
  obind (nilC t0) fun t14 =>
  obind (fldP 1 t14) fun t15 =>
  obind (ldCell h_5 t15) fun v16 =>
  obind (avInt .i64 v16) fun t16 =>
  obind (idxS t12 t16) fun t17 =>
  lett ((t17 : Int) == t1) fun (t19 : Bool) =>
  k3 t19 h_5)
 (
  k3 false h_5)
theorem pattern_reader_sees_ok {call : CallF} (hc : SaysAll Pg call) {n : Nat} {t0 : AV} {t1 : Int} {h : AHeap} {rR : ARes} {hR : AHeap} (z : pattern_reader_sees call n t0 t1 h = some (rR, hR)) : Says Pg 68 [t0, .int .u8 t1] h rR hR := by
 unfold pattern_reader_sees at z
 refine sO Try.func68 fun w0 m0 => ?_
 refine wW [(0, t0), (1, .int .u8 t1)] ?_
 refine oG fun n1 => W.r ?_
 refine oA 4 (.bool false) ?_
 refine oV [(0, t0), (1, .int .u8 t1)] (n1 ?_)
 refine W.s (fun K2 n2 _ _ _ => ?_)
 obtain ⟨k3, e3, z⟩ := lS z
 have J3 : ∀ (t4 : Bool) (h_4 : AHeap), k3 t4 h_4 = some (rR, hR) → Go w0 m0 (Func.ntmps Try.f68) (K2 .normal) [(4, .bool t4)] [] h_4 := by
  intro t4 h_4 z
  rw [e3] at z
  refine n2 (oY ?_)
  exact lZ z [.tmp 4] [.bool t4] (rT res_nil)
 refine W.draw (by kernel_rfl) (hc.ok w0) (plan := [0, 1, 2, 3, 4, 5, 6, 7, 8, 9, 10, 11, 12, 13, 14, 15, 16]) (by kernel_rfl) (by kernel_rfl) (by kernel_rfl) ?_
 refine WD.a 0 (some 5) t0 h ?_
 replace z := callN_some z; obtain ⟨r6, h_5, e6, z⟩ := z
 replace z := oS z; obtain ⟨t6, c7, z⟩ := z
 have c7 := avBool_some c7
 subst c7
 refine WD.call (d := (some 6)) (by kernel_rfl) (by kernel_rfl) (by kernel_rfl) e6 (k := 2) (by kernel_rfl) (fun _ => (by kernel_rfl)) (by decide) ?_
 obtain ⟨t7, e8, z⟩ := lS z
 refine WD.val (d := (some 7)) (v := .bool t7) (h' := h_5) (by kernel_rfl) (by kernel_rfl) (val_of AV.bool e8 (by kernel_rfl)) (k := 0) (by kernel_rfl) (fun e => absurd e (by decide)) (by decide) ?_
 refine WD.a 0 (some 8) (.bool t7) h_5 ?_
 cases t7 with
 | true =>
  replace z := ifB_t z
  refine WD.a 0 (some 9) t0 h_5 ?_
  obtain ⟨t10, e9, z⟩ := oS z
  refine WD.b 0 (some 10) t10 h_5 (nil_chk (h := h_5) e9) ?_
  obtain ⟨t11, e10, z⟩ := oS z
  refine WD.b 0 (some 11) t11 h_5 (field_ptr (P := Pg) (h := h_5) (s := 70) (f := 0) (by kernel_rfl) e10) ?_
  replace z := oS z; obtain ⟨v12, e11, z⟩ := z
  replace z := oS z; obtain ⟨t12, c12, z⟩ := z
  have c12 := avStr_some c12
  subst c12
  refine WD.b 1 (some 12) (strA t12) h_5 (load_cell (P := Pg) (h := h_5) (t := 9) (by kernel_rfl) e11) ?_
  refine WD.a 0 (some 13) t0 h_5 ?_
  obtain ⟨t14, e13, z⟩ := oS z
  refine WD.b 0 (some 14) t14 h_5 (nil_chk (h := h_5) e13) ?_
  obtain ⟨t15, e14, z⟩ := oS z
  refine WD.b 0 (some 15) t15 h_5 (field_ptr (P := Pg) (h := h_5) (s := 70) (f := 1) (by kernel_rfl) e14) ?_
  replace z := oS z; obtain ⟨v16, e15, z⟩ := z
  replace z := oS z; obtain ⟨t16, c16, z⟩ := z
  have c16 := avInt_some c16
  subst c16
  refine WD.b 1 (some 16) (.int .i64 t16) h_5 (load_cell (P := Pg) (h := h_5) (t := 3) (by kernel_rfl) e15) ?_
  obtain ⟨t17, e17, z⟩ := oS z
  refine WD.b 0 (some 17) (.int .u8 t17) h_5 (index_str (P := Pg) (h := h_5) (t := 9) (k := .i64) (by kernel_rfl) e17) ?_
  refine WD.a 0 (some 18) (.int .u8 t1) h_5 ?_
  obtain ⟨t19, e18, z⟩ := lS z
  refine WD.val (d := (some 19)) (v := .bool t19) (h' := h_5) (by kernel_rfl) (by kernel_rfl) (val_of AV.bool e18 (by kernel_rfl)) (k := 0) (by kernel_rfl) (fun e => absurd e (by decide)) (by decide) ?_
  refine WD.a 0 (some 20) (.bool t19) h_5 ?_
  refine WD.a 0 (some 4) (.bool t19) h_5 ?_
  refine WD.nil ?_
  exact gW _ (J3 _ _ z)
 | false =>
  replace z := ifB_f z
  refine oD 0 (some 9) ?_
  refine oD 0 (some 10) ?_
  refine oD 0 (some 11) ?_
  refine oD 1 (some 12) ?_
  refine oD 0 (some 13) ?_
  refine oD 0 (some 14) ?_
  refine oD 0 (some 15) ?_
  refine oD 1 (some 16) ?_
  refine oD 0 (some 17) ?_
  refine oD 0 (some 18) ?_
  refine oD 0 (some 19) ?_
  refine WD.a 0 (some 20) (.bool false) h_5 ?_
  refine WD.a 0 (some 4) (.bool false) h_5 ?_
  refine WD.nil ?_
  exact gW _ (J3 _ _ z)
noncomputable def pattern_reader_ended (_ : CallF) (_ : Nat) (t0 : AV) (h : AHeap) : R :=
 obind (nilC t0) fun t4 =>
 obind (fldP 1 t4) fun t5 =>
 obind (ldCell h t5) fun v6 =>
 obind (avInt .i64 v6) fun t6 =>
 obind (nilC t0) fun t8 =>
 obind (fldP 0 t8) fun t9 =>
 obind (ldCell h t9) fun v10 =>
 obind (avStr v10) fun t10 =>
 lett ((t6 : Int) == (lenS t10)) fun (t12 : Bool) =>
 some (.ret (.bool t12), h)
theorem pattern_reader_ended_ok {call : CallF} (hc : SaysAll Pg call) {n : Nat} {t0 : AV} {h : AHeap} {rR : ARes} {hR : AHeap} (z : pattern_reader_ended call n t0 h = some (rR, hR)) : Says Pg 74 [t0] h rR hR := by
 unfold pattern_reader_ended at z
 refine sO Try.func74 fun w0 m0 => ?_
 refine wW [(0, t0)] ?_
 refine oG fun n1 => W.r ?_
 refine oA 2 (.bool false) ?_
 refine oV [(0, t0)] (n1 ?_)
 refine oG fun n2 => ?_
 refine W.draw (by kernel_rfl) (hc.ok w0) (plan := [0, 1, 2, 3, 4, 5, 6, 7, 8, 9, 10]) (by kernel_rfl) (by kernel_rfl) (by kernel_rfl) ?_
 refine WD.a 0 (some 3) t0 h ?_
 obtain ⟨t4, e3, z⟩ := oS z
 refine WD.b 0 (some 4) t4 h (nil_chk (h := h) e3) ?_
 obtain ⟨t5, e4, z⟩ := oS z
 refine WD.b 0 (some 5) t5 h (field_ptr (P := Pg) (h := h) (s := 70) (f := 1) (by kernel_rfl) e4) ?_
 replace z := oS z; obtain ⟨v6, e5, z⟩ := z
 replace z := oS z; obtain ⟨t6, c6, z⟩ := z
 have c6 := avInt_some c6
 subst c6
 refine WD.b 1 (some 6) (.int .i64 t6) h (load_cell (P := Pg) (h := h) (t := 3) (by kernel_rfl) e5) ?_
 refine WD.a 0 (some 7) t0 h ?_
 obtain ⟨t8, e7, z⟩ := oS z
 refine WD.b 0 (some 8) t8 h (nil_chk (h := h) e7) ?_
 obtain ⟨t9, e8, z⟩ := oS z
 refine WD.b 0 (some 9) t9 h (field_ptr (P := Pg) (h := h) (s := 70) (f := 0) (by kernel_rfl) e8) ?_
 replace z := oS z; obtain ⟨v10, e9, z⟩ := z
 replace z := oS z; obtain ⟨t10, c10, z⟩ := z
 have c10 := avStr_some c10
 subst c10
 refine WD.b 1 (some 10) (strA t10) h (load_cell (P := Pg) (h := h) (t := 9) (by kernel_rfl) e9) ?_
 refine WD.a 0 (some 11) (.int .i64 (lenS t10)) h ?_
 obtain ⟨t12, e11, z⟩ := lS z
 refine WD.val (d := (some 12)) (v := .bool t12) (h' := h) (by kernel_rfl) (by kernel_rfl) (val_of AV.bool e11 (by kernel_rfl)) (k := 0) (by kernel_rfl) (fun e => absurd e (by decide)) (by decide) ?_
 refine WD.a 0 (some 2) (.bool t12) h ?_
 refine WD.nil ?_
 refine gW [(2, .bool t12)] (n2 (oY ?_))
 exact lZ z [.tmp 2] [.bool t12] (rT res_nil)
noncomputable def pattern_reader_end (call : CallF) (_ : Nat) (t0 : AV) (h : AHeap) : R :=
 callN (call 74 [t0] h) fun r3 h_2 =>
 obind (avBool r3) fun t3 =>
 lett (!t3) fun (t4 : Bool) =>
 lett (fun  (h_7 : AHeap) =>
  some (.ret (.tup []), h_7)) fun k6 =>
 ifB t4
 (
  obind (nilC t0) fun t6 =>
  obind (fldP 1 t6) fun t7 =>
  obind (ldCell h_2 t7) fun v8 =>
  obind (avInt .i64 v8) fun t8 =>
  callK (call 57 [.int .i64 6, .int .i64 t8] h_2) fun _ h_12 =>
  k6 h_12)
 (
  k6 h_2)
theorem pattern_reader_end_ok {call : CallF} (hc : SaysAll Pg call) {n : Nat} {t0 : AV} {h : AHeap} {rR : ARes} {hR : AHeap} (z : pattern_reader_end call n t0 h = some (rR, hR)) : Says Pg 62 [t0] h rR hR := by
 unfold pattern_reader_end at z
 refine sO Try.func62 fun w0 m0 => ?_
 refine wW [(0, t0)] ?_
 refine oG fun n1 => W.r ?_
 refine oA 2 t0 ?_
 refine oCb hc 3 z fun t3 h_2 z => ?_
 refine oB 4 z fun t4 z => ?_
 refine oV [(0, t0), (4, .bool t4)] (n1 ?_)
 obtain ⟨k6, e6, z⟩ := lS z
 have J6 : ∀  (h_7 : AHeap), k6 h_7 = some (rR, hR) → Go w0 m0 (Func.ntmps Try.f62) (Fin Pg Try.f62 w0 m0 rR hR .normal) [] [] h_7 := by
  intro  h_7 z
  rw [e6] at z
  exact lY z [] [] res_nil
 cases t4 with
 | true =>
  refine oT z fun z => ?_
  refine W.r ?_
  refine oA 5 t0 ?_
  refine oC0 6 z fun t6 z => ?_
  refine oF 7 70 1 z fun t7 z => ?_
  refine oLi 8 3 z fun t8 z => ?_
  refine oCK hc (some 9) z (fun q => Pf q) fun r9 h_12 z => ?_
  refine oV [] ?_
  exact gW _ (J6 _ z)
 | false =>
  refine oU z fun z => ?_
  refine oZ ?_
  exact gW _ (J6 _ z)
noncomputable def pattern_reader_form (call : CallF) (_ : Nat) (t0 : AV) (h : AHeap) : R :=
 callK (call 71 [t0] h) fun r5 h_3 =>
 obind (avInt .u8 r5) fun t5 =>
 lett ((t5 : Int) != 92) fun (t7 : Bool) =>
 ifB t7
 (
  callN (call 51 [.int .u8 t5] h_3) fun r9 h_11 =>
  obind (avBool r9) fun t9 =>
  lett (!t9) fun (t10 : Bool) =>
  lett (fun  (h_16 : AHeap) =>
   some (.ret (.int .u8 t5), h_16)) fun k15 =>
  ifB t10
  (
   callK (call 72 [t0] h_11) fun _ h_18 =>
   k15 h_18)
  (
   k15 h_11))
 (
  callK (call 71 [t0] h_3) fun r15 h_23 =>
  obind (avInt .u8 r15) fun t15 =>
  lett ((t15 : Int) == 34) fun (t18 : Bool) =>
  lett (fun (t17 : Bool) (h_32 : AHeap) =>
   ifB t17
   (
    some (.ret (.int .u8 t15), h_32))
   (
    lett ((t15 : Int) == 110) fun (t22 : Bool) =>
    ifB t22
    (
     some (.ret (.int .u8 10), h_32))
    (
     lett ((t15 : Int) == 114) fun (t24 : Bool) =>
     ifB t24
     (
      some (.ret (.int .u8 13), h_32))
     (
      lett ((t15 : Int) == 116) fun (t26 : Bool) =>
      ifB t26
      (
       some (.ret (.int .u8 9), h_32))
      (
       lett ((t15 : Int) == 120) fun (t28 : Bool) =>
       ifB t28
       (
        callK (call 73 [t0] h_32) fun r30 h_46 =>
        obind (avInt .u8 r30) fun t30 =>
        some (.ret (.int .u8 t30), h_46))
       (
        callK (call 72 [t0] h_32) fun _ h_51 =>
        some (.ret (.int .u8 0), h_51))))))) fun k31 =>
  ifB t18
  (
   k31 true h_23)
  (
   lett ((t15 : Int) == 92) fun (t19 : Bool) =>
   k31 t19 h_23))
theorem pattern_reader_form_ok {call : CallF} (hc : SaysAll Pg call) {n : Nat} {t0 : AV} {h : AHeap} {rR : ARes} {hR : AHeap} (z : pattern_reader_form call n t0 h = some (rR, hR)) : Says Pg 58 [t0] h rR hR := by
 unfold pattern_reader_form at z
 refine sO Try.func58 fun w0 m0 => ?_
 refine wW [(0, t0)] ?_
 refine oG fun n1 => W.r ?_
 refine oA 2 (.int .u8 0) ?_
 refine oV [(0, t0)] (n1 ?_)
 refine oJ fun n2 p2 => W.r ?_
 refine oA 4 t0 ?_
 refine oCK hc (some 5) z (fun q => p2 (Pf q)) fun r5 h_3 z => ?_
 replace z := oS z; obtain ⟨t5, c5, z⟩ := z
 have c5 := avInt_some c5
 subst c5
 refine oA 3 (.int .u8 t5) ?_
 refine oV [(0, t0), (3, .int .u8 t5)] (n2 ?_)
 refine W.s (fun _ n6 _ q6 p6 => ?_)
 refine oG fun n7 => W.r ?_
 refine oA 6 (.int .u8 t5) ?_
 refine oB 7 z fun t7 z => ?_
 refine oV [(0, t0), (3, .int .u8 t5), (7, .bool t7)] (n7 ?_)
 cases t7 with
 | true =>
  refine oT z fun z => ?_
  refine W.s (fun K9 n9 _ _ p9 => ?_)
  refine oG fun n10 => W.r ?_
  refine oA 8 (.int .u8 t5) ?_
  refine oCb hc 9 z fun t9 h_11 z => ?_
  refine oB 10 z fun t10 z => ?_
  refine oV [(0, t0), (3, .int .u8 t5), (10, .bool t10)] (n10 ?_)
  obtain ⟨k15, e15, z⟩ := lS z
  have J15 : ∀  (h_16 : AHeap), k15 h_16 = some (rR, hR) → Go w0 m0 (Func.ntmps Try.f58) (K9 .normal) [(3, .int .u8 t5)] [] h_16 := by
   intro  h_16 z
   rw [e15] at z
   refine n9 ?_
   refine oG fun n17 => W.r ?_
   refine oA 13 (.int .u8 t5) ?_
   refine oA 2 (.int .u8 t5) ?_
   refine oV [(2, .int .u8 t5)] (n17 (oY (q6 ?_)))
   exact lZ z [.tmp 2] [.int .u8 t5] (rT res_nil)
  cases t10 with
  | true =>
   refine oT z fun z => ?_
   refine W.r ?_
   refine oA 11 t0 ?_
   refine oCK hc (some 12) z (fun q => p9 (p6 (Pf q))) fun r12 h_18 z => ?_
   refine oV [(3, .int .u8 t5)] ?_
   exact gW _ (J15 _ z)
  | false =>
   refine oU z fun z => ?_
   refine oZ ?_
   exact gW _ (J15 _ z)
 | false =>
  refine oU z fun z => ?_
  refine oZ (n6 ?_)
  refine W.s (fun _ n21 _ q21 p21 => ?_)
  refine oJ fun n22 p22 => W.r ?_
  refine oA 14 t0 ?_
  refine oCK hc (some 15) z (fun q => p22 (p21 (Pf q))) fun r15 h_23 z => ?_
  replace z := oS z; obtain ⟨t15, c25, z⟩ := z
  have c25 := avInt_some c25
  subst c25
  refine oA 3 (.int .u8 t15) ?_
  refine oV [(0, t0), (3, .int .u8 t15)] (n22 ?_)
  refine oG fun n26 => W.r ?_
  refine oA 16 (.int .u8 t15) ?_
  refine oV [(0, t0), (3, .int .u8 t15), (16, .int .u8 t15)] (n26 ?_)
  refine W.blockK (by kernel_rfl) (fun K27 n27 s27 o27 q27 p27 => ?_)
  refine W.s (fun K28 n28 _ _ _ => ?_)
  refine oG fun n29 => W.r ?_
  refine oB 18 z fun t18 z => ?_
  refine oA 17 (.bool t18) ?_
  refine oV [(0, t0), (3, .int .u8 t15), (16, .int .u8 t15), (17, .bool t18)] (n29 ?_)
  obtain ⟨k31, e31, z⟩ := lS z
  have J31 : ∀ (t17 : Bool) (h_32 : AHeap), k31 t17 h_32 = some (rR, hR) → Go w0 m0 (Func.ntmps Try.f58) (K28 .normal) [(0, t0), (3, .int .u8 t15), (16, .int .u8 t15), (17, .bool t17)] [] h_32 := by
   intro t17 h_32 z
   rw [e31] at z
   refine n28 ?_
   cases t17 with
   | true =>
    refine oT z fun z => ?_
    refine oG fun n33 => W.r ?_
    refine oA 20 (.int .u8 t15) ?_
    refine oA 2 (.int .u8 t15) ?_
    refine oV [(2, .int .u8 t15)] (n33 (oY (q27 (q21 ?_))))
    exact lZ z [.tmp 2] [.int .u8 t15] (rT res_nil)
   | false =>
    refine oU z fun z => ?_
    refine oG fun n34 => W.r ?_
    refine oB 22 z fun t22 z => ?_
    refine oA 21 (.bool t22) ?_
    refine oV [(0, t0), (16, .int .u8 t15), (21, .bool t22)] (n34 ?_)
    cases t22 with
    | true =>
     refine oT z fun z => ?_
     refine oG fun n36 => W.r ?_
     refine oA 2 (.int .u8 10) ?_
     refine oV [(2, .int .u8 10)] (n36 (oY (q27 (q21 ?_))))
     exact lZ z [.tmp 2] [.int .u8 10] (rT res_nil)
    | false =>
     refine oU z fun z => ?_
     refine oG fun n37 => W.r ?_
     refine oB 24 z fun t24 z => ?_
     refine oA 23 (.bool t24) ?_
     refine oV [(0, t0), (16, .int .u8 t15), (23, .bool t24)] (n37 ?_)
     cases t24 with
     | true =>
      refine oT z fun z => ?_
      refine oG fun n39 => W.r ?_
      refine oA 2 (.int .u8 13) ?_
      refine oV [(2, .int .u8 13)] (n39 (oY (q27 (q21 ?_))))
      exact lZ z [.tmp 2] [.int .u8 13] (rT res_nil)
     | false =>
      refine oU z fun z => ?_
      refine oG fun n40 => W.r ?_
      refine oB 26 z fun t26 z => ?_
      refine oA 25 (.bool t26) ?_
      refine oV [(0, t0), (16, .int .u8 t15), (25, .bool t26)] (n40 ?_)
      cases t26 with
      | true =>
       refine oT z fun z => ?_
       refine oG fun n42 => W.r ?_
       refine oA 2 (.int .u8 9) ?_
       refine oV [(2, .int .u8 9)] (n42 (oY (q27 (q21 ?_))))
       exact lZ z [.tmp 2] [.int .u8 9] (rT res_nil)
      | false =>
       refine oU z fun z => ?_
       refine oG fun n43 => W.r ?_
       refine oB 28 z fun t28 z => ?_
       refine oA 27 (.bool t28) ?_
       refine oV [(0, t0), (27, .bool t28)] (n43 ?_)
       cases t28 with
       | true =>
        refine oT z fun z => ?_
        refine oJ fun n45 p45 => W.r ?_
        refine oA 29 t0 ?_
        refine oCK hc (some 30) z (fun q => p45 (p27 (p21 (Pf q)))) fun r30 h_46 z => ?_
        replace z := oS z; obtain ⟨t30, c48, z⟩ := z
        have c48 := avInt_some c48
        subst c48
        refine oA 2 (.int .u8 t30) ?_
        refine oV [(2, .int .u8 t30)] (n45 (oY (q27 (q21 ?_))))
        exact lZ z [.tmp 2] [.int .u8 t30] (rT res_nil)
       | false =>
        refine oU z fun z => ?_
        refine oZ (n27 (n21 ?_))
        refine oJ fun n50 p50 => W.r ?_
        refine oA 31 t0 ?_
        refine oCK hc (some 32) z (fun q => p50 (Pf q)) fun r32 h_51 z => ?_
        refine oV [] (n50 ?_)
        refine oG fun n53 => W.r ?_
        refine oA 2 (.int .u8 0) ?_
        refine oV [(2, .int .u8 0)] (n53 (oY ?_))
        exact lZ z [.tmp 2] [.int .u8 0] (rT res_nil)
  cases t18 with
  | true =>
   refine oT z fun z => ?_
   refine oZ ?_
   exact gW _ (J31 _ _ z)
  | false =>
   refine oU z fun z => ?_
   refine W.r ?_
   refine oB 19 z fun t19 z => ?_
   refine oA 17 (.bool t19) ?_
   refine oV [(0, t0), (3, .int .u8 t15), (16, .int .u8 t15), (17, .bool t19)] ?_
   exact gW _ (J31 _ _ z)
noncomputable def pattern_reader_next (call : CallF) (_ : Nat) (t0 : AV) (h : AHeap) : R :=
 callN (call 74 [t0] h) fun r4 h_4 =>
 obind (avBool r4) fun t4 =>
 lett (fun  (h_8 : AHeap) =>
  obind (nilC t0) fun t11 =>
  obind (fldP 1 t11) fun t12 =>
  obind (ldCell h_8 t12) fun v13 =>
  obind (avInt .i64 v13) fun t13 =>
  lett (IntKind.i64.wrap (t13 + 1)) fun (t14 : Int) =>
  obind (nilC t0) fun t15 =>
  obind (fldP 1 t15) fun t16 =>
  obind (stRow h_8 1 [.int .i64 t14] t16) fun h_17 =>
  obind (nilC t0) fun t18 =>
  obind (fldP 0 t18) fun t19 =>
  obind (ldCell h_17 t19) fun v20 =>
  obind (avStr v20) fun t20 =>
  obind (nilC t0) fun t22 =>
  obind (fldP 1 t22) fun t23 =>
  obind (ldCell h_17 t23) fun v24 =>
  obind (avInt .i64 v24) fun t24 =>
  lett (IntKind.i64.wrap (t24 - 1)) fun (t25 : Int) =>
  obind (idxS t20 t25) fun t26 =>
  some (.ret (.int .u8 t26), h_17)) fun k7 =>
 ifB t4
 (
  obind (nilC t0) fun t6 =>
  obind (fldP 1 t6) fun t7 =>
  obind (ldCell h_4 t7) fun v8 =>
  obind (avInt .i64 v8) fun t8 =>
  callK (call 57 [.int .i64 6, .int .i64 t8] h_4) fun _ h_34 =>
  k7 h_34)
 (
  k7 h_4)
theorem pattern_reader_next_ok {call : CallF} (hc : SaysAll Pg call) {n : Nat} {t0 : AV} {h : AHeap} {rR : ARes} {hR : AHeap} (z : pattern_reader_next call n t0 h = some (rR, hR)) : Says Pg 71 [t0] h rR hR := by
 unfold pattern_reader_next at z
 refine sO Try.func71 fun w0 m0 => ?_
 refine wW [(0, t0)] ?_
 refine oG fun n1 => W.r ?_
 refine oA 2 (.int .u8 0) ?_
 refine oV [(0, t0)] (n1 ?_)
 refine W.s (fun K2 n2 _ _ p2 => ?_)
 refine oG fun n3 => W.r ?_
 refine oA 3 t0 ?_
 refine oCb hc 4 z fun t4 h_4 z => ?_
 refine oV [(0, t0), (4, .bool t4)] (n3 ?_)
 obtain ⟨k7, e7, z⟩ := lS z
 have J7 : ∀  (h_8 : AHeap), k7 h_8 = some (rR, hR) → Go w0 m0 (Func.ntmps Try.f71) (K2 .normal) [(0, t0)] [] h_8 := by
  intro  h_8 z
  rw [e7] at z
  refine n2 ?_
  refine oG fun n9 => W.r ?_
  refine oA 10 t0 ?_
  refine oC0 11 z fun t11 z => ?_
  refine oF 12 70 1 z fun t12 z => ?_
  refine oLi 13 3 z fun t13 z => ?_
  refine oI 14 .i64 z fun t14 z => ?_
  refine oC0 15 z fun t15 z => ?_
  refine oF 16 70 1 z fun t16 z => ?_
  refine oW 3 (.int .i64 t14) z fun h_17 z => ?_
  refine oV [(0, t0)] (n9 ?_)
  refine oG fun n19 => ?_
  refine W.draw (by kernel_rfl) (hc.ok w0) (plan := [0, 1, 2, 3, 4, 5, 6, 7, 8, 9, 10]) (by kernel_rfl) (by kernel_rfl) (by kernel_rfl) ?_
  refine WD.a 0 (some 17) t0 h_17 ?_
  obtain ⟨t18, e20, z⟩ := oS z
  refine WD.b 0 (some 18) t18 h_17 (nil_chk (h := h_17) e20) ?_
  obtain ⟨t19, e21, z⟩ := oS z
  refine WD.b 0 (some 19) t19 h_17 (field_ptr (P := Pg) (h := h_17) (s := 70) (f := 0) (by kernel_rfl) e21) ?_
  replace z := oS z; obtain ⟨v20, e22, z⟩ := z
  replace z := oS z; obtain ⟨t20, c23, z⟩ := z
  have c23 := avStr_some c23
  subst c23
  refine WD.b 1 (some 20) (strA t20) h_17 (load_cell (P := Pg) (h := h_17) (t := 9) (by kernel_rfl) e22) ?_
  refine WD.a 0 (some 21) t0 h_17 ?_
  obtain ⟨t22, e24, z⟩ := oS z
  refine WD.b 0 (some 22) t22 h_17 (nil_chk (h := h_17) e24) ?_
  obtain ⟨t23, e25, z⟩ := oS z
  refine WD.b 0 (some 23) t23 h_17 (field_ptr (P := Pg) (h := h_17) (s := 70) (f := 1) (by kernel_rfl) e25) ?_
  replace z := oS z; obtain ⟨v24, e26, z⟩ := z
  replace z := oS z; obtain ⟨t24, c27, z⟩ := z
  have c27 := avInt_some c27
  subst c27
  refine WD.b 1 (some 24) (.int .i64 t24) h_17 (load_cell (P := Pg) (h := h_17) (t := 3) (by kernel_rfl) e26) ?_
  obtain ⟨t25, e28, z⟩ := lS z
  refine WD.val (d := (some 25)) (v := .int .i64 t25) (h' := h_17) (by kernel_rfl) (by kernel_rfl) (val_of (AV.int .i64) e28 (by kernel_rfl)) (k := 0) (by kernel_rfl) (fun e => absurd e (by decide)) (by decide) ?_
  obtain ⟨t26, e29, z⟩ := oS z
  refine WD.b 0 (some 26) (.int .u8 t26) h_17 (index_str (P := Pg) (h := h_17) (t := 9) (k := .i64) (by kernel_rfl) e29) ?_
  refine WD.a 0 (some 2) (.int .u8 t26) h_17 ?_
  refine WD.nil ?_
  refine gW [(2, .int .u8 t26)] (n19 (oY ?_))
  exact lZ z [.tmp 2] [.int .u8 t26] (rT res_nil)
 cases t4 with
 | true =>
  refine oT z fun z => ?_
  refine W.r ?_
  refine oA 5 t0 ?_
  refine oC0 6 z fun t6 z => ?_
  refine oF 7 70 1 z fun t7 z => ?_
  refine oLi 8 3 z fun t8 z => ?_
  refine oCK hc (some 9) z (fun q => p2 (Pf q)) fun r9 h_34 z => ?_
  refine oV [(0, t0)] ?_
  exact gW _ (J7 _ z)
 | false =>
  refine oU z fun z => ?_
  refine oZ ?_
  exact gW _ (J7 _ z)
noncomputable def pattern_reader_refuseLast (call : CallF) (_ : Nat) (t0 : AV) (h : AHeap) : R :=
 obind (nilC t0) fun t3 =>
 obind (fldP 1 t3) fun t4 =>
 obind (ldCell h t4) fun v5 =>
 obind (avInt .i64 v5) fun t5 =>
 lett (IntKind.i64.wrap (t5 - 1)) fun (t6 : Int) =>
 callK (call 57 [.int .i64 6, .int .i64 t6] h) fun _ h_6 =>
 some (.ret (.tup []), h_6)
theorem pattern_reader_refuseLast_ok {call : CallF} (hc : SaysAll Pg call) {n : Nat} {t0 : AV} {h : AHeap} {rR : ARes} {hR : AHeap} (z : pattern_reader_refuseLast call n t0 h = some (rR, hR)) : Says Pg 72 [t0] h rR hR := by
 unfold pattern_reader_refuseLast at z
 refine sO Try.func72 fun w0 m0 => ?_
 refine wW [(0, t0)] ?_
 refine W.r ?_
 refine oA 2 t0 ?_
 refine oC0 3 z fun t3 z => ?_
 refine oF 4 70 1 z fun t4 z => ?_
 refine oLi 5 3 z fun t5 z => ?_
 refine oI 6 .i64 z fun t6 z => ?_
 refine oCK hc (some 7) z (fun q => Pf q) fun r7 h_6 z => ?_
 refine oV [] ?_
 exact lY z [] [] res_nil
noncomputable def pattern_refuse (_ : CallF) (_ : Nat) (t0 : Int) (t1 : Int) (h : AHeap) : R :=
 obind (bldS Pg 91 [(0, .agg ([.int .i64 t0, .int .i64 t1] : List AV))]) fun t7 =>
 panK (AV.ifc 91 (.agg t7)) h
theorem pattern_refuse_ok {call : CallF} (_ : SaysAll Pg call) {n : Nat} {t0 : Int} {t1 : Int} {h : AHeap} {rR : ARes} {hR : AHeap} (z : pattern_refuse call n t0 t1 h = some (rR, hR)) : Says Pg 57 [.int .i64 t0, .int .i64 t1] h rR hR := by
 unfold pattern_refuse at z
 refine sO Try.func57 fun w0 m0 => ?_
 refine wW [(0, .int .i64 t0), (1, .int .i64 t1)] ?_
 refine W.r ?_
 refine oA 4 (.int .i64 t0) ?_
 refine oA 5 (.int .i64 t1) ?_
 refine oA 6 (.agg ([.int .i64 t0, .int .i64 t1] : List AV)) ?_
 obtain ⟨t7, e1, z⟩ := oS z
 refine WL.val (d := (some 7)) (v := .agg t7) (h' := h) (by kernel_rfl) (by kernel_rfl) (bld_ok (by kernel_rfl) e1) ?_
 refine oA 8 (AV.ifc 91 (.agg t7)) ?_
 replace z := panK_some z; obtain ⟨a3t, a3v, e2, e22⟩ := z
 cases e22
 exact WL.pan (d := none) (by kernel_rfl) (by kernel_rfl) (Eq.trans (by kernel_rfl) (congrArg (fun x => opPanic _ (some x)) e2)) Pan.fin
noncomputable def pattern_reader_twoDigits (call : CallF) (_ : Nat) (t0 : AV) (h : AHeap) : R :=
 callK (call 81 [t0] h) fun r6 h_3 =>
 obind (avInt .u8 r6) fun t6 =>
 obind (shlI .u8 t6 4) fun t7 =>
 callN (call 82 [.int .u8 t7] h_3) fun r9 h_9 =>
 obind (avBool r9) fun t9 =>
 lett (!t9) fun (t10 : Bool) =>
 lett (fun  (h_14 : AHeap) =>
  callK (call 81 [t0] h_14) fun r15 h_16 =>
  obind (avInt .u8 r15) fun t15 =>
  lett (orI .u8 t7 t15) fun (t16 : Int) =>
  callN (call 83 [.int .u8 t16] h_16) fun r18 h_22 =>
  obind (avBool r18) fun t18 =>
  lett (!t18) fun (t19 : Bool) =>
  lett (fun  (h_27 : AHeap) =>
   some (.ret (.int .u8 t16), h_27)) fun k26 =>
  ifB t19
  (
   callK (call 72 [t0] h_22) fun _ h_29 =>
   k26 h_29)
  (
   k26 h_22)) fun k13 =>
 ifB t10
 (
  callK (call 72 [t0] h_9) fun _ h_33 =>
  k13 h_33)
 (
  k13 h_9)
theorem pattern_reader_twoDigits_ok {call : CallF} (hc : SaysAll Pg call) {n : Nat} {t0 : AV} {h : AHeap} {rR : ARes} {hR : AHeap} (z : pattern_reader_twoDigits call n t0 h = some (rR, hR)) : Says Pg 73 [t0] h rR hR := by
 unfold pattern_reader_twoDigits at z
 refine sO Try.func73 fun w0 m0 => ?_
 refine wW [(0, t0)] ?_
 refine oG fun n1 => W.r ?_
 refine oA 2 (.int .u8 0) ?_
 refine oV [(0, t0)] (n1 ?_)
 refine oJ fun n2 p2 => W.r ?_
 refine oA 5 t0 ?_
 refine oCK hc (some 6) z (fun q => p2 (Pf q)) fun r6 h_3 z => ?_
 replace z := oS z; obtain ⟨t6, c5, z⟩ := z
 have c5 := avInt_some c5
 subst c5
 obtain ⟨t7, e6, z⟩ := oS z
 refine WL.b (some 7) (.int .u8 t7) h_3 (shl_int (P := Pg) (h := h_3) (t := 5) (k' := .u64) (lit := true) e6) ?_
 refine oA 3 (.int .u8 t7) ?_
 refine oV [(0, t0), (3, .int .u8 t7)] (n2 ?_)
 refine W.s (fun K7 n7 _ _ p7 => ?_)
 refine oG fun n8 => W.r ?_
 refine oA 8 (.int .u8 t7) ?_
 refine oCb hc 9 z fun t9 h_9 z => ?_
 refine oB 10 z fun t10 z => ?_
 refine oV [(0, t0), (3, .int .u8 t7), (10, .bool t10)] (n8 ?_)
 obtain ⟨k13, e13, z⟩ := lS z
 have J13 : ∀  (h_14 : AHeap), k13 h_14 = some (rR, hR) → Go w0 m0 (Func.ntmps Try.f73) (K7 .normal) [(0, t0), (3, .int .u8 t7)] [] h_14 := by
  intro  h_14 z
  rw [e13] at z
  refine n7 ?_
  refine oJ fun n15 p15 => W.r ?_
  refine oA 13 (.int .u8 t7) ?_
  refine oA 14 t0 ?_
  refine oCK hc (some 15) z (fun q => p15 (Pf q)) fun r15 h_16 z => ?_
  replace z := oS z; obtain ⟨t15, c18, z⟩ := z
  have c18 := avInt_some c18
  subst c18
  refine oI 16 .u8 z fun t16 z => ?_
  refine oA 4 (.int .u8 t16) ?_
  refine oV [(0, t0), (4, .int .u8 t16)] (n15 ?_)
  refine W.s (fun K20 n20 _ _ p20 => ?_)
  refine oG fun n21 => W.r ?_
  refine oA 17 (.int .u8 t16) ?_
  refine oCb hc 18 z fun t18 h_22 z => ?_
  refine oB 19 z fun t19 z => ?_
  refine oV [(0, t0), (4, .int .u8 t16), (19, .bool t19)] (n21 ?_)
  obtain ⟨k26, e26, z⟩ := lS z
  have J26 : ∀  (h_27 : AHeap), k26 h_27 = some (rR, hR) → Go w0 m0 (Func.ntmps Try.f73) (K20 .normal) [(4, .int .u8 t16)] [] h_27 := by
   intro  h_27 z
   rw [e26] at z
   refine n20 ?_
   refine oG fun n28 => W.r ?_
   refine oA 22 (.int .u8 t16) ?_
   refine oA 2 (.int .u8 t16) ?_
   refine oV [(2, .int .u8 t16)] (n28 (oY ?_))
   exact lZ z [.tmp 2] [.int .u8 t16] (rT res_nil)
  cases t19 with
  | true =>
   refine oT z fun z => ?_
   refine W.r ?_
   refine oA 20 t0 ?_
   refine oCK hc (some 21) z (fun q => p20 (Pf q)) fun r21 h_29 z => ?_
   refine oV [(4, .int .u8 t16)] ?_
   exact gW _ (J26 _ z)
  | false =>
   refine oU z fun z => ?_
   refine oZ ?_
   exact gW _ (J26 _ z)
 cases t10 with
 | true =>
  refine oT z fun z => ?_
  refine W.r ?_
  refine oA 11 t0 ?_
  refine oCK hc (some 12) z (fun q => p7 (Pf q)) fun r12 h_33 z => ?_
  refine oV [(0, t0), (3, .int .u8 t7)] ?_
  exact gW _ (J13 _ z)
 | false =>
  refine oU z fun z => ?_
  refine oZ ?_
  exact gW _ (J13 _ z)
noncomputable def pattern_reader_digit (call : CallF) (_ : Nat) (t0 : AV) (h : AHeap) : R :=
 callK (call 71 [t0] h) fun r5 h_3 =>
 obind (avInt .u8 r5) fun t5 =>
 callN (call 87 [strA ([48, 49, 50, 51, 52, 53, 54, 55, 56, 57, 97, 98, 99, 100, 101, 102] : Bytes), .int .u8 t5] h_3) fun r6 h_6 =>
 obind (avInt .i64 r6) fun t6 =>
 lett (decide (t6 < 0)) fun (t8 : Bool) =>
 lett (fun  (h_13 : AHeap) =>
  lett (IntKind.u8.wrap t6) fun (t12 : Int) =>
  some (.ret (.int .u8 t12), h_13)) fun k12 =>
 ifB t8
 (
  callK (call 72 [t0] h_6) fun _ h_16 =>
  k12 h_16)
 (
  k12 h_6)
theorem pattern_reader_digit_ok {call : CallF} (hc : SaysAll Pg call) {n : Nat} {t0 : AV} {h : AHeap} {rR : ARes} {hR : AHeap} (z : pattern_reader_digit call n t0 h = some (rR, hR)) : Says Pg 81 [t0] h rR hR := by
 unfold pattern_reader_digit at z
 refine sO Try.func81 fun w0 m0 => ?_
 refine wW [(0, t0)] ?_
 refine oG fun n1 => W.r ?_
 refine oA 2 (.int .u8 0) ?_
 refine oV [(0, t0)] (n1 ?_)
 refine oJ fun n2 p2 => W.r ?_
 refine oA 4 t0 ?_
 refine oCK hc (some 5) z (fun q => p2 (Pf q)) fun r5 h_3 z => ?_
 replace z := oS z; obtain ⟨t5, c5, z⟩ := z
 have c5 := avInt_some c5
 subst c5
 refine oCi hc 6 z fun t6 h_6 z => ?_
 refine oA 3 (.int .i64 t6) ?_
 refine oV [(0, t0), (3, .int .i64 t6)] (n2 ?_)
 refine W.s (fun K9 n9 _ _ p9 => ?_)
 refine oG fun n10 => W.r ?_
 refine oA 7 (.int .i64 t6) ?_
 refine oB 8 z fun t8 z => ?_
 refine oV [(0, t0), (3, .int .i64 t6), (8, .bool t8)] (n10 ?_)
 obtain ⟨k12, e12, z⟩ := lS z
 have J12 : ∀  (h_13 : AHeap), k12 h_13 = some (rR, hR) → Go w0 m0 (Func.ntmps Try.f81) (K9 .normal) [(3, .int .i64 t6)] [] h_13 := by
  intro  h_13 z
  rw [e12] at z
  refine n9 ?_
  refine oG fun n14 => W.r ?_
  refine oA 11 (.int .i64 t6) ?_
  refine oI 12 .u8 z fun t12 z => ?_
  refine oA 2 (.int .u8 t12) ?_
  refine oV [(2, .int .u8 t12)] (n14 (oY ?_))
  exact lZ z [.tmp 2] [.int .u8 t12] (rT res_nil)
 cases t8 with
 | true =>
  refine oT z fun z => ?_
  refine W.r ?_
  refine oA 9 t0 ?_
  refine oCK hc (some 10) z (fun q => p9 (Pf q)) fun r10 h_16 z => ?_
  refine oV [(3, .int .i64 t6)] ?_
  exact gW _ (J12 _ z)
 | false =>
  refine oU z fun z => ?_
  refine oZ ?_
  exact gW _ (J12 _ z)
noncomputable def pattern_mayBegin_L0b (call : CallF) (t0 : Int) (k5 : AHeap → R) (self : Int → AHeap → R) (t4 : Int) (h_9 : AHeap) : R :=
 lett (decide (t4 < 16)) fun (t5 : Bool) =>
 ifB t5
 (
  lett (IntKind.u8.wrap t4) fun (t9 : Int) =>
  lett (orI .u8 t0 t9) fun (t10 : Int) =>
  callN (call 83 [.int .u8 t10] h_9) fun r11 h_19 =>
  obind (avBool r11) fun t11 =>
  ifB t11
  (
   some (.ret (.bool true), h_19))
  (
   lett (IntKind.i64.wrap (t4 + 1)) fun (t12 : Int) =>
   self t12 h_19))
 (
  k5 h_9)
noncomputable def pattern_mayBegin_L0 (call : CallF) (t0 : Int) (k5 : AHeap → R) : Nat → Int → AHeap → R := iterR (fun _ _ => none) (pattern_mayBegin_L0b call t0 k5)
theorem pattern_mayBegin_L0_s (call : CallF) (t0 : Int) (k5 : AHeap → R) (m : Nat) : pattern_mayBegin_L0 call t0 k5 (m + 1) = pattern_mayBegin_L0b call t0 k5 (pattern_mayBegin_L0 call t0 k5 m) := rfl
noncomputable def pattern_mayBegin (call : CallF) (n : Nat) (t0 : Int) (h : AHeap) : R :=
 lett (fun  (h_6 : AHeap) =>
  some (.ret (.bool false), h_6)) fun k5 =>
 pattern_mayBegin_L0 call t0 k5 n 0 h
theorem pattern_mayBegin_ok {call : CallF} (hc : SaysAll Pg call) {n : Nat} {t0 : Int} {h : AHeap} {rR : ARes} {hR : AHeap} (z : pattern_mayBegin call n t0 h = some (rR, hR)) : Says Pg 82 [.int .u8 t0] h rR hR := by
 unfold pattern_mayBegin at z
 refine sO Try.func82 fun w0 m0 => ?_
 refine wW [(0, .int .u8 t0)] ?_
 refine oG fun n1 => W.r ?_
 refine oA 2 (.bool false) ?_
 refine oV [(0, .int .u8 t0)] (n1 ?_)
 refine W.s (fun K2 n2 _ q2 _ => ?_)
 refine oG fun n3 => W.r ?_
 refine oA 4 (.int .i64 0) ?_
 refine oV [(0, .int .u8 t0), (4, .int .i64 0)] (n3 ?_)
 obtain ⟨k5, e5, z⟩ := lS z
 have J5 : ∀  (h_6 : AHeap), k5 h_6 = some (rR, hR) → Go w0 m0 (Func.ntmps Try.f82) (K2 .normal) [] [] h_6 := by
  intro  h_6 z
  rw [e5] at z
  refine n2 ?_
  refine oG fun n7 => W.r ?_
  refine oA 2 (.bool false) ?_
  refine oV [(2, .bool false)] (n7 (oY ?_))
  exact lZ z [.tmp 2] [.bool false] (rT res_nil)
 refine W.blockK (by kernel_rfl) (fun K4 n4 s4 o4 q4 p4 => ?_)
 refine W.loopK (by kernel_rfl) (fun I8 K8 b8 n8 e8 q8 p8 => ?_)
 have L8 : ∀ (m : Nat) (t4 : Int) (h_9 : AHeap), pattern_mayBegin_L0 call t0 k5 m t4 h_9 = some (rR, hR) → Go w0 m0 (Func.ntmps Try.f82) I8 [(0, .int .u8 t0), (4, .int .i64 t4)] [] h_9 := by
  intro m
  induction m with
  | zero => intro t4 h_9 z; cases z
  | succ m ih8 =>
   intro t4 h_9 z
   rw [pattern_mayBegin_L0_s] at z; unfold pattern_mayBegin_L0b at z
   refine b8 ?_
   refine oG fun n10 => W.r ?_
   refine oB 5 z fun t5 z => ?_
   refine oV [(0, .int .u8 t0), (4, .int .i64 t4), (5, .bool t5)] (n10 ?_)
   refine W.s (fun _ n12 e12 _ _ => ?_)
   cases t5 with
   | true =>
    refine oT z fun z => ?_
    refine oZ (n12 ?_)
    refine oH fun n13 q13 => ?_
    refine W.blockK (by kernel_rfl) (fun K14 n14 s14 o14 q14 p14 => ?_)
    refine oG fun n15 => W.r ?_
    refine oA 6 (.int .i64 t4) ?_
    refine oA 3 (.int .i64 t4) ?_
    refine oV [(0, .int .u8 t0), (3, .int .i64 t4), (4, .int .i64 t4)] (n15 ?_)
    refine oG fun n16 => W.r ?_
    refine oA 7 (.int .u8 t0) ?_
    refine oA 8 (.int .i64 t4) ?_
    refine oI 9 .u8 z fun t9 z => ?_
    refine oI 10 .u8 z fun t10 z => ?_
    refine oCb hc 11 z fun t11 h_19 z => ?_
    refine oV [(0, .int .u8 t0), (4, .int .i64 t4), (11, .bool t11)] (n16 ?_)
    cases t11 with
    | true =>
     refine oT z fun z => ?_
     refine oG fun n22 => W.r ?_
     refine oA 2 (.bool true) ?_
     refine oV [(2, .bool true)] (n22 (oY (q14 (q13 (q8 (q4 (q2 ?_)))))))
     exact lZ z [.tmp 2] [.bool true] (rT res_nil)
    | false =>
     refine oU z fun z => ?_
     refine oZ (n14 (n13 (W.r ?_)))
     refine oI 12 .i64 z fun t12 z => ?_
     refine oA 4 (.int .i64 t12) ?_
     refine oV [(0, .int .u8 t0), (4, .int .i64 t12)] (n8 ?_)
     exact gW _ (ih8 _ _ z)
   | false =>
    refine oU z fun z => ?_
    refine W.exit (by kernel_rfl) ?_
    refine e12 (e8 ?_)
    refine s4 (by kernel_rfl) ?_
    exact gW _ (J5 _ z)
 exact gW _ (L8 _ _ _ z)
noncomputable def pattern_byDigits (call : CallF) (_ : Nat) (t0 : Int) (h : AHeap) : R :=
 callN (call 50 [.int .u8 t0] h) fun r4 h_3 =>
 obind (avInt .u8 r4) fun t4 =>
 lett ((t4 : Int) == 0) fun (t5 : Bool) =>
 lett (fun (t10 : Bool) (h_7 : AHeap) =>
  some (.ret (.bool t10), h_7)) fun j10 =>
 ifB t5
 (
  callN (call 51 [.int .u8 t0] h_3) fun r8 h_10 =>
  obind (avBool r8) fun t8 =>
  lett (!t8) fun (t9 : Bool) =>
  j10 t9 h_10)
 (
  j10 false h_3)
theorem pattern_byDigits_ok {call : CallF} (hc : SaysAll Pg call) {n : Nat} {t0 : Int} {h : AHeap} {rR : ARes} {hR : AHeap} (z : pattern_byDigits call n t0 h = some (rR, hR)) : Says Pg 83 [.int .u8 t0] h rR hR := by
 unfold pattern_byDigits at z
 refine sO Try.func83 fun w0 m0 => ?_
 refine wW [(0, .int .u8 t0)] ?_
 refine oG fun n1 => W.r ?_
 refine oA 2 (.bool false) ?_
 refine oV [(0, .int .u8 t0)] (n1 ?_)
 refine W.s (fun K2 n2 _ _ p2 => ?_)
 refine W.r ?_
 refine oA 3 (.int .u8 t0) ?_
 refine oCi hc 4 z fun t4 h_3 z => ?_
 refine oB 5 z fun t5 z => ?_
 refine oA 6 (.bool t5) ?_
 obtain ⟨j10, e8, z⟩ := lS z
 have J9 : ∀ (t10 : Bool) (h_7 : AHeap), j10 t10 h_7 = some (rR, hR) → WL Pg w0 m0 (Func.ntmps Try.f83) (Code.ops (Code.p1 (Code.p2 (codeOf Try.f83)))) 8 K2 [(10, .bool t10)] [] h_7 := by
  intro t10 h_7 z
  rw [e8] at z
  refine oA 2 (.bool t10) ?_
  refine oV [(2, .bool t10)] (n2 (oY ?_))
  exact lZ z [.tmp 2] [.bool t10] (rT res_nil)
 cases t5 with
 | true =>
  replace z := ifB_t z
  refine oA 7 (.int .u8 t0) ?_
  refine oCb hc 8 z fun t8 h_10 z => ?_
  refine oB 9 z fun t9 z => ?_
  refine oA 10 (.bool t9) ?_
  exact lW _ (J9 _ _ z)
 | false =>
  replace z := ifB_f z
  refine WL.o (some 7) ?_
  refine WL.o (some 8) ?_
  refine WL.o (some 9) ?_
  refine oA 10 (.bool false) ?_
  exact lW _ (J9 _ _ z)
noncomputable def pattern_short (_ : CallF) (_ : Nat) (t0 : Int) (h : AHeap) : R :=
 lett ((t0 : Int) == 34) fun (t5 : Bool) =>
 lett (fun (t4 : Bool) (h_9 : AHeap) =>
  ifB t4
  (
   some (.ret (.int .u8 t0), h_9))
  (
   lett ((t0 : Int) == 10) fun (t9 : Bool) =>
   ifB t9
   (
    some (.ret (.int .u8 110), h_9))
   (
    lett ((t0 : Int) == 13) fun (t11 : Bool) =>
    ifB t11
    (
     some (.ret (.int .u8 114), h_9))
    (
     lett ((t0 : Int) == 9) fun (t13 : Bool) =>
     ifB t13
     (
      some (.ret (.int .u8 116), h_9))
     (
      some (.ret (.int .u8 0), h_9)))))) fun k8 =>
 ifB t5
 (
  k8 true h)
 (
  lett ((t0 : Int) == 92) fun (t6 : Bool) =>
  k8 t6 h)
theorem pattern_short_ok {call : CallF} (_ : SaysAll Pg call) {n : Nat} {t0 : Int} {h : AHeap} {rR : ARes} {hR : AHeap} (z : pattern_short call n t0 h = some (rR, hR)) : Says Pg 50 [.int .u8 t0] h rR hR := by
 unfold pattern_short at z
 refine sO Try.func50 fun w0 m0 => ?_
 refine wW [(0, .int .u8 t0)] ?_
 refine oG fun n1 => W.r ?_
 refine oA 2 (.int .u8 0) ?_
 refine oV [(0, .int .u8 t0)] (n1 ?_)
 refine oH fun n2 q2 => ?_
 refine oG fun n3 => W.r ?_
 refine oA 3 (.int .u8 t0) ?_
 refine oV [(0, .int .u8 t0), (3, .int .u8 t0)] (n3 ?_)
 refine W.blockK (by kernel_rfl) (fun K4 n4 s4 o4 q4 p4 => ?_)
 refine W.s (fun K5 n5 _ _ _ => ?_)
 refine oG fun n6 => W.r ?_
 refine oB 5 z fun t5 z => ?_
 refine oA 4 (.bool t5) ?_
 refine oV [(0, .int .u8 t0), (3, .int .u8 t0), (4, .bool t5)] (n6 ?_)
 obtain ⟨k8, e8, z⟩ := lS z
 have J8 : ∀ (t4 : Bool) (h_9 : AHeap), k8 t4 h_9 = some (rR, hR) → Go w0 m0 (Func.ntmps Try.f50) (K5 .normal) [(0, .int .u8 t0), (3, .int .u8 t0), (4, .bool t4)] [] h_9 := by
  intro t4 h_9 z
  rw [e8] at z
  refine n5 ?_
  cases t4 with
  | true =>
   refine oT z fun z => ?_
   refine oG fun n10 => W.r ?_
   refine oA 7 (.int .u8 t0) ?_
   refine oA 2 (.int .u8 t0) ?_
   refine oV [(2, .int .u8 t0)] (n10 (oY (q4 (q2 ?_))))
   exact lZ z [.tmp 2] [.int .u8 t0] (rT res_nil)
  | false =>
   refine oU z fun z => ?_
   refine oG fun n11 => W.r ?_
   refine oB 9 z fun t9 z => ?_
   refine oA 8 (.bool t9) ?_
   refine oV [(3, .int .u8 t0), (8, .bool t9)] (n11 ?_)
   cases t9 with
   | true =>
    refine oT z fun z => ?_
    refine oG fun n13 => W.r ?_
    refine oA 2 (.int .u8 110) ?_
    refine oV [(2, .int .u8 110)] (n13 (oY (q4 (q2 ?_))))
    exact lZ z [.tmp 2] [.int .u8 110] (rT res_nil)
   | false =>
    refine oU z fun z => ?_
    refine oG fun n14 => W.r ?_
    refine oB 11 z fun t11 z => ?_
    refine oA 10 (.bool t11) ?_
    refine oV [(3, .int .u8 t0), (10, .bool t11)] (n14 ?_)
    cases t11 with
    | true =>
     refine oT z fun z => ?_
     refine oG fun n16 => W.r ?_
     refine oA 2 (.int .u8 114) ?_
     refine oV [(2, .int .u8 114)] (n16 (oY (q4 (q2 ?_))))
     exact lZ z [.tmp 2] [.int .u8 114] (rT res_nil)
    | false =>
     refine oU z fun z => ?_
     refine oG fun n17 => W.r ?_
     refine oB 13 z fun t13 z => ?_
     refine oA 12 (.bool t13) ?_
     refine oV [(12, .bool t13)] (n17 ?_)
     cases t13 with
     | true =>
      refine oT z fun z => ?_
      refine oG fun n19 => W.r ?_
      refine oA 2 (.int .u8 116) ?_
      refine oV [(2, .int .u8 116)] (n19 (oY (q4 (q2 ?_))))
      exact lZ z [.tmp 2] [.int .u8 116] (rT res_nil)
     | false =>
      refine oU z fun z => ?_
      refine oZ (n4 (n2 ?_))
      refine oG fun n20 => W.r ?_
      refine oA 2 (.int .u8 0) ?_
      refine oV [(2, .int .u8 0)] (n20 (oY ?_))
      exact lZ z [.tmp 2] [.int .u8 0] (rT res_nil)
 cases t5 with
 | true =>
  refine oT z fun z => ?_
  refine oZ ?_
  exact gW _ (J8 _ _ z)
 | false =>
  refine oU z fun z => ?_
  refine W.r ?_
  refine oB 6 z fun t6 z => ?_
  refine oA 4 (.bool t6) ?_
  refine oV [(0, .int .u8 t0), (3, .int .u8 t0), (4, .bool t6)] ?_
  exact gW _ (J8 _ _ z)
noncomputable def pattern_plain (_ : CallF) (_ : Nat) (t0 : Int) (h : AHeap) : R :=
 lett (decide (t0 ≥ 32)) fun (t4 : Bool) =>
 lett (fun (t8 : Bool) (h_4 : AHeap) =>
  some (.ret (.bool t8), h_4)) fun j8 =>
 ifB t4
 (
  lett (decide (t0 ≤ 126)) fun (t7 : Bool) =>
  j8 t7 h)
 (
  j8 false h)
theorem pattern_plain_ok {call : CallF} (_ : SaysAll Pg call) {n : Nat} {t0 : Int} {h : AHeap} {rR : ARes} {hR : AHeap} (z : pattern_plain call n t0 h = some (rR, hR)) : Says Pg 51 [.int .u8 t0] h rR hR := by
 unfold pattern_plain at z
 refine sO Try.func51 fun w0 m0 => ?_
 refine wW [(0, .int .u8 t0)] ?_
 refine oG fun n1 => W.r ?_
 refine oA 2 (.bool false) ?_
 refine oV [(0, .int .u8 t0)] (n1 ?_)
 refine W.s (fun K2 n2 _ _ p2 => ?_)
 refine W.r ?_
 refine oA 3 (.int .u8 t0) ?_
 refine oB 4 z fun t4 z => ?_
 refine oA 5 (.bool t4) ?_
 obtain ⟨j8, e5, z⟩ := lS z
 have J6 : ∀ (t8 : Bool) (h_4 : AHeap), j8 t8 h_4 = some (rR, hR) → WL Pg w0 m0 (Func.ntmps Try.f51) (Code.ops (Code.p1 (Code.p2 (codeOf Try.f51)))) 6 K2 [(8, .bool t8)] [] h_4 := by
  intro t8 h_4 z
  rw [e5] at z
  refine oA 2 (.bool t8) ?_
  refine oV [(2, .bool t8)] (n2 (oY ?_))
  exact lZ z [.tmp 2] [.bool t8] (rT res_nil)
 cases t4 with
 | true =>
  replace z := ifB_t z
  refine oA 6 (.int .u8 t0) ?_
  refine oB 7 z fun t7 z => ?_
  refine oA 8 (.bool t7) ?_
  exact lW _ (J6 _ _ z)
 | false =>
  replace z := ifB_f z
  refine WL.o (some 6) ?_
  refine WL.o (some 7) ?_
  refine oA 8 (.bool false) ?_
  exact lW _ (J6 _ _ z)
noncomputable def strings_Builder_WriteByte (call : CallF) (_ : Nat) (t0 : AV) (t1 : Int) (h : AHeap) : R :=
 callN (call 49 [t0] h) fun _ h_3 =>
 obind (nilC t0) fun t9 =>
 obind (fldP 1 t9) fun t10 =>
 obind (ldCell h_3 t10) fun v11 =>
 outK (bldSl Pg h_3 50 1 [(0, .int .u8 t1)]) fun v13 h_9 =>
 outK (opAppend Pg h_9 50 50 v11 v13) fun v14 h_11 =>
 obind (nilC t0) fun t15 =>
 obind (fldP 1 t15) fun t16 =>
 obind (stRow h_11 1 (AV.cells v14) t16) fun h_15 =>
 some (.ret (AV.nifc), h_15)
theorem strings_Builder_WriteByte_ok {call : CallF} (hc : SaysAll Pg call) {n : Nat} {t0 : AV} {t1 : Int} {h : AHeap} {rR : ARes} {hR : AHeap} (z : strings_Builder_WriteByte call n t0 t1 h = some (rR, hR)) : Says Pg 29 [t0, .int .u8 t1] h rR hR := by
 unfold strings_Builder_WriteByte at z
 refine sO Try.func29 fun w0 m0 => ?_
 refine wW [(0, t0), (1, .int .u8 t1)] ?_
 refine oG fun n1 => W.r ?_
 refine oA 4 AV.nifc ?_
 refine oV [(0, t0), (1, .int .u8 t1)] (n1 ?_)
 refine oG fun n2 => W.r ?_
 refine oA 5 t0 ?_
 refine oC hc (some 6) z fun r6 h_3 z => ?_
 refine oV [(0, t0), (1, .int .u8 t1)] (n2 ?_)
 refine oG fun n5 => W.r ?_
 refine oA 7 t0 ?_
 refine oA 8 t0 ?_
 refine oC0 9 z fun t9 z => ?_
 refine oF 10 57 1 z fun t10 z => ?_
 refine oL 11 50 z fun v11 z => ?_
 refine oA 12 (.int .u8 t1) ?_
 refine oK 13 z fun v13 h_9 z => ?_
 refine oK 14 z fun v14 h_11 z => ?_
 refine oC0 15 z fun t15 z => ?_
 refine oF 16 57 1 z fun t16 z => ?_
 refine oW 50 v14 z fun h_15 z => ?_
 refine oV [] (n5 ?_)
 refine oG fun n17 => W.r ?_
 refine oA 4 AV.nifc ?_
 refine oV [(4, AV.nifc)] (n17 (oY ?_))
 exact lZ z [.tmp 4] [AV.nifc] (rT res_nil)
noncomputable def strings_Builder_Len (_ : CallF) (_ : Nat) (t0 : AV) (h : AHeap) : R :=
 obind (nilC t0) fun t4 =>
 obind (fldP 1 t4) fun t5 =>
 obind (ldCell h t5) fun v6 =>
 obind (lenL v6) fun t7 =>
 some (.ret (.int .i64 t7), h)
theorem strings_Builder_Len_ok {call : CallF} (_ : SaysAll Pg call) {n : Nat} {t0 : AV} {h : AHeap} {rR : ARes} {hR : AHeap} (z : strings_Builder_Len call n t0 h = some (rR, hR)) : Says Pg 56 [t0] h rR hR := by
 unfold strings_Builder_Len at z
 refine sO Try.func56 fun w0 m0 => ?_
 refine wW [(0, t0)] ?_
 refine oG fun n1 => W.r ?_
 refine oA 2 (.int .i64 0) ?_
 refine oV [(0, t0)] (n1 ?_)
 refine oG fun n2 => W.r ?_
 refine oA 3 t0 ?_
 refine oC0 4 z fun t4 z => ?_
 refine oF 5 57 1 z fun t5 z => ?_
 refine oL 6 50 z fun v6 z => ?_
 refine oM 7 50 5 z fun t7 z => ?_
 refine oA 2 (.int .i64 t7) ?_
 refine oV [(2, .int .i64 t7)] (n2 (oY ?_))
 exact lZ z [.tmp 2] [.int .i64 t7] (rT res_nil)
noncomputable def strings_Builder_String (_ : CallF) (_ : Nat) (t0 : AV) (h : AHeap) : R :=
 obind (nilC t0) fun t4 =>
 obind (fldP 1 t4) fun t5 =>
 obind (ldCell h t5) fun v6 =>
 obind (nilC t0) fun t9 =>
 obind (fldP 1 t9) fun t10 =>
 obind (ldCell h t10) fun v11 =>
 obind (lenL v11) fun t12 =>
 outK (opSliceData h v6) fun v7 h_10 =>
 chk (reLoad Pg h_10 50 t10 v11 && (true && true)) <|
 outK (opUnsafeStr Pg h_10 89 v7 (.int .i64 t12)) fun v13 h_13 =>
 obind (avStr v13) fun t13 =>
 some (.ret (strA t13), h_13)
theorem strings_Builder_String_ok {call : CallF} (hc : SaysAll Pg call) {n : Nat} {t0 : AV} {h : AHeap} {rR : ARes} {hR : AHeap} (z : strings_Builder_String call n t0 h = some (rR, hR)) : Says Pg 31 [t0] h rR hR := by
 unfold strings_Builder_String at z
 refine sO Try.func31 fun w0 m0 => ?_
 refine wW [(0, t0)] ?_
 refine oG fun n1 => W.r ?_
 refine oA 2 (strA ([] : Bytes)) ?_
 refine oV [(0, t0)] (n1 ?_)
 refine oG fun n2 => ?_
 refine W.draw (by kernel_rfl) (hc.ok w0) (plan := [0, 1, 2, 3, 5, 6, 7, 8, 9, 4, 10, 11]) (by kernel_rfl) (by kernel_rfl) (by kernel_rfl) ?_
 refine WD.a 0 (some 3) t0 h ?_
 obtain ⟨t4, e3, z⟩ := oS z
 refine WD.b 0 (some 4) t4 h (nil_chk (h := h) e3) ?_
 obtain ⟨t5, e4, z⟩ := oS z
 refine WD.b 0 (some 5) t5 h (field_ptr (P := Pg) (h := h) (s := 57) (f := 1) (by kernel_rfl) e4) ?_
 obtain ⟨v6, e5, z⟩ := oS z
 refine WD.b 1 (some 6) v6 h (load_cell (P := Pg) (h := h) (t := 50) (by kernel_rfl) e5) ?_
 refine WD.a 0 (some 8) t0 h ?_
 obtain ⟨t9, e6, z⟩ := oS z
 refine WD.b 0 (some 9) t9 h (nil_chk (h := h) e6) ?_
 obtain ⟨t10, e7, z⟩ := oS z
 refine WD.b 0 (some 10) t10 h (field_ptr (P := Pg) (h := h) (s := 57) (f := 1) (by kernel_rfl) e7) ?_
 obtain ⟨v11, e8, z⟩ := oS z
 refine WD.b 1 (some 11) v11 h (load_cell (P := Pg) (h := h) (t := 50) (by kernel_rfl) e8) ?_
 obtain ⟨t12, e9, z⟩ := oS z
 refine WD.b 0 (some 12) (.int .i64 t12) h (len_row (P := Pg) (h := h) (t := 50) (e' := 5) (by kernel_rfl) e9) ?_
 obtain ⟨v7, h_10, e11, z⟩ := outK_some z
 obtain ⟨k12, z⟩ := chk_some z
 refine WD.val (d := (some 7)) (v := v7) (h' := h_10) (by kernel_rfl) (by kernel_rfl) (Eq.trans (by kernel_rfl) e11) (k := 2) (by kernel_rfl) (fun _ => (Eq.trans (by kernel_rfl) k12)) (by decide) ?_
 replace z := outK_some z; obtain ⟨v13, h_13, e14, z⟩ := z
 replace z := oS z; obtain ⟨t13, c15, z⟩ := z
 have c15 := avStr_some c15
 subst c15
 refine WD.val (d := (some 13)) (v := strA t13) (h' := h_13) (by kernel_rfl) (by kernel_rfl) (Eq.trans (by kernel_rfl) e14) (k := 2) (by kernel_rfl) (fun _ => (by kernel_rfl)) (by decide) ?_
 refine WD.a 0 (some 2) (strA t13) h_13 ?_
 refine WD.nil ?_
 refine gW [(2, strA t13)] (n2 (oY ?_))
 exact lZ z [.tmp 2] [strA t13] (rT res_nil)
noncomputable def strings_Builder_copyCheck (_ : CallF) (_ : Nat) (t0 : AV) (h : AHeap) : R :=
 obind (nilC t0) fun t3 =>
 obind (fldP 0 t3) fun t4 =>
 obind (ldCell h t4) fun v5 =>
 outK (opBin Pg h .eql 55 true (some v5) (some AV.nilp)) fun v6 h_5 =>
 obind (avBool v6) fun t6 =>
 lett (fun  (h_9 : AHeap) =>
  some (.ret (.tup []), h_9)) fun k8 =>
 ifB t6
 (
  outK (opConv Pg h_5 55 102 (some t0)) fun v9 h_10 =>
  outK (externA Pg h_10 70 [v9]) fun v10 h_14 =>
  outK (opConv Pg h_14 102 55 (some v10)) fun v11 h_16 =>
  obind (nilC t0) fun t12 =>
  obind (fldP 0 t12) fun t13 =>
  obind (stRow h_16 1 (AV.cells v11) t13) fun h_20 =>
  k8 h_20)
 (
  obind (nilC t0) fun t15 =>
  obind (fldP 0 t15) fun t16 =>
  obind (ldCell h_5 t16) fun v17 =>
  outK (opBinV Pg h_5 .neq 55 false (some v17) (some t0)) fun v19 h_26 =>
  obind (avBool v19) fun t19 =>
  ifB t19
  (
   none)
  (
   k8 h_26))
theorem strings_Builder_copyCheck_ok {call : CallF} (_ : SaysAll Pg call) {n : Nat} {t0 : AV} {h : AHeap} {rR : ARes} {hR : AHeap} (z : strings_Builder_copyCheck call n t0 h = some (rR, hR)) : Says Pg 49 [t0] h rR hR := by
 unfold strings_Builder_copyCheck at z
 refine sO Try.func49 fun w0 m0 => ?_
 refine wW [(0, t0)] ?_
 refine oG fun n1 => W.r ?_
 refine oA 2 t0 ?_
 refine oC0 3 z fun t3 z => ?_
 refine oF 4 57 0 z fun t4 z => ?_
 refine oL 5 55 z fun v5 z => ?_
 replace z := outK_some z; obtain ⟨v6, h_5, e6, z⟩ := z
 replace z := oS z; obtain ⟨t6, c7, z⟩ := z
 have c7 := avBool_some c7
 subst c7
 refine WL.b (some 6) (.bool t6) h_5 e6 ?_
 refine oV [(0, t0), (6, .bool t6)] (n1 ?_)
 obtain ⟨k8, e8, z⟩ := lS z
 have J8 : ∀  (h_9 : AHeap), k8 h_9 = some (rR, hR) → Go w0 m0 (Func.ntmps Try.f49) (Fin Pg Try.f49 w0 m0 rR hR .normal) [] [] h_9 := by
  intro  h_9 z
  rw [e8] at z
  exact lY z [] [] res_nil
 cases t6 with
 | true =>
  refine oT z fun z => ?_
  refine W.r ?_
  refine oA 7 t0 ?_
  refine oA 8 t0 ?_
  refine oK 9 z fun v9 h_10 z => ?_
  refine oK 10 z fun v10 h_14 z => ?_
  refine oK 11 z fun v11 h_16 z => ?_
  refine oC0 12 z fun t12 z => ?_
  refine oF 13 57 0 z fun t13 z => ?_
  refine oW 55 v11 z fun h_20 z => ?_
  refine oV [] ?_
  exact gW _ (J8 _ z)
 | false =>
  refine oU z fun z => ?_
  refine oG fun n22 => W.r ?_
  refine oA 14 t0 ?_
  refine oC0 15 z fun t15 z => ?_
  refine oF 16 57 0 z fun t16 z => ?_
  refine oL 17 55 z fun v17 z => ?_
  refine oA 18 t0 ?_
  replace z := outK_some z; obtain ⟨v19, h_26, e27, z⟩ := z
  replace z := oS z; obtain ⟨t19, c28, z⟩ := z
  have c28 := avBool_some c28
  subst c28
  refine WL.b (some 19) (.bool t19) h_26 e27 ?_
  refine oV [(19, .bool t19)] (n22 ?_)
  cases t19 with
  | true =>
   refine oT z fun z => ?_
   cases z
  | false =>
   refine oU z fun z => ?_
   refine oZ ?_
   exact gW _ (J8 _ z)
noncomputable def pattern_Unquote (call : CallF) (_ : Nat) (t0 : Bytes) (h : AHeap) : R :=
 lett (newH h 27 [.int .i64 0, .int .i64 0]) fun h_2 =>
 callN (call 19 [strA t0, .int .i64 (-1)] h_2) fun r9 h_5 =>
 obind (extT 0 r9) fun v10 =>
 obind (avStr v10) fun t10 =>
 obind (extT 1 r9) fun v11 =>
 obind (avInt .i64 v11) fun t11 =>
 obind (extT 2 r9) fun v12 =>
 obind (avAgg v12) fun t12 =>
 lett (newH h_5 27 [.int .i64 0, .int .i64 0]) fun h_13 =>
 obind (stRow h_13 2 t12 (newP h_5)) fun h_15 =>
 obind (ldCell h_15 (AV.ptr (AHeap.next h_5) 0)) fun v14 =>
 obind (avInt .i64 v14) fun t14 =>
 lett ((t14 : Int) != 0) fun (t15 : Bool) =>
 ifB t15
 (
  obind (ldRow h_15 2 (newP h_5)) fun t16 =>
  obind (stRow h_15 2 t16 (newP h)) fun h_24 =>
  obind (ldRow h_24 2 (newP h)) fun w3 =>
  some (.ret (.tup [strA ([] : Bytes), .agg w3]), h_24))
 (
  lett (decide (t11 < (lenS t0))) fun (t20 : Bool) =>
  ifB t20
  (
   obind (stRow h_15 2 ([.int .i64 6, .int .i64 t11] : List AV) (newP h)) fun h_31 =>
   obind (ldRow h_31 2 (newP h)) fun w3_34 =>
   some (.ret (.tup [strA ([] : Bytes), .agg w3_34]), h_31))
  (
   obind (stRow h_15 2 ([.int .i64 0, .int .i64 0] : List AV) (newP h)) fun h_36 =>
   obind (ldRow h_36 2 (newP h)) fun w3_39 =>
   some (.ret (.tup [strA t10, .agg w3_39]), h_36)))
theorem pattern_Unquote_ok {call : CallF} (hc : SaysAll Pg call) {n : Nat} {t0 : Bytes} {h : AHeap} {rR : ARes} {hR : AHeap} (z : pattern_Unquote call n t0 h = some (rR, hR)) : Says Pg 16 [strA t0] h rR hR := by
 unfold pattern_Unquote at z
 refine sO Try.func16 fun w0 m0 => ?_
 refine wW [(0, strA t0)] ?_
 refine oG fun n1 => W.r ?_
 refine oA 2 (strA ([] : Bytes)) ?_
 refine oN 3 z fun h_2 z => ?_
 refine oV [(0, strA t0), (3, newP h)] (n1 ?_)
 refine oG fun n4 => W.r ?_
 refine oA 8 (strA t0) ?_
 refine oC hc (some 9) z fun r9 h_5 z => ?_
 refine oA 7 r9 ?_
 refine oEs 10 z fun t10 z => ?_
 refine oEi 11 z fun t11 z => ?_
 refine oEa 12 z fun t12 z => ?_
 refine oN 6 z fun h_13 z => ?_
 refine oA 4 (strA t10) ?_
 refine oA 5 (.int .i64 t11) ?_
 refine oW 27 (.agg t12) z fun h_15 z => ?_
 refine oV [(0, strA t0), (3, newP h), (4, strA t10), (5, .int .i64 t11), (6, newP h_5)] (n4 ?_)
 refine oH fun n17 q17 => ?_
 refine oG fun n18 => W.r ?_
 refine oA 13 (AV.ptr (AHeap.next h_5) 0) ?_
 refine oLi 14 25 z fun t14 z => ?_
 refine oB 15 z fun t15 z => ?_
 refine oV [(0, strA t0), (3, newP h), (4, strA t10), (5, .int .i64 t11), (6, newP h_5), (15, .bool t15)] (n18 ?_)
 cases t15 with
 | true =>
  refine oT z fun z => ?_
  refine oG fun n22 => ?_
  refine W.draw (by kernel_rfl) (hc.ok w0) (plan := [0, 1, 2]) (by kernel_rfl) (by kernel_rfl) (by kernel_rfl) ?_
  obtain ⟨t16, e23, z⟩ := oS z
  refine WD.b 1 (some 16) (.agg t16) h_15 (load_row (P := Pg) (h := h_15) (t := 27) (by kernel_rfl) (by kernel_rfl) e23) ?_
  refine WD.a 0 (some 2) (strA ([] : Bytes)) h_15 ?_
  obtain ⟨h_24, e25, z⟩ := oS z
  refine WD.eff (h' := h_24) (by kernel_rfl) (by kernel_rfl) (Eq.trans (by kernel_rfl) (store_row (P := Pg) (h := h_15) (t := 27) (v := (.agg t16)) (by kernel_rfl) (by kernel_rfl) e25)) (k := 2) (by kernel_rfl) (fun _ => (by kernel_rfl)) (by decide) ?_
  refine WD.nil ?_
  refine gW [(2, strA ([] : Bytes)), (3, newP h)] (n22 (oY (q17 ?_)))
  obtain ⟨w3, e26, z⟩ := oS z
  exact lZ z [.tmp 2, .cell 3 27] [strA ([] : Bytes), .agg w3] (rT (rY e26 res_nil))
 | false =>
  refine oU z fun z => ?_
  refine oZ (n17 ?_)
  refine oH fun n27 q27 => ?_
  refine oG fun n28 => W.r ?_
  refine oA 17 (.int .i64 t11) ?_
  refine oA 18 (strA t0) ?_
  refine oA 19 (.int .i64 (lenS t0)) ?_
  refine oB 20 z fun t20 z => ?_
  refine oV [(3, newP h), (4, strA t10), (5, .int .i64 t11), (20, .bool t20)] (n28 ?_)
  cases t20 with
  | true =>
   refine oT z fun z => ?_
   refine oG fun n30 => W.r ?_
   refine oA 21 (.int .i64 t11) ?_
   refine oA 22 (.agg ([.int .i64 6, .int .i64 t11] : List AV)) ?_
   refine oA 2 (strA ([] : Bytes)) ?_
   refine oW 27 (.agg ([.int .i64 6, .int .i64 t11] : List AV)) z fun h_31 z => ?_
   refine oV [(2, strA ([] : Bytes)), (3, newP h)] (n30 (oY (q27 ?_)))
   obtain ⟨w3_34, e33, z⟩ := oS z
   exact lZ z [.tmp 2, .cell 3 27] [strA ([] : Bytes), .agg w3_34] (rT (rY e33 res_nil))
  | false =>
   refine oU z fun z => ?_
   refine oZ (n27 ?_)
   refine oG fun n35 => W.r ?_
   refine oA 23 (strA t10) ?_
   refine oA 24 (.agg ([.int .i64 0, .int .i64 0] : List AV)) ?_
   refine oA 2 (strA t10) ?_
   refine oW 27 (.agg ([.int .i64 0, .int .i64 0] : List AV)) z fun h_36 z => ?_
   refine oV [(2, strA t10), (3, newP h)] (n35 (oY ?_))
   obtain ⟨w3_39, e38, z⟩ := oS z
   exact lZ z [.tmp 2, .cell 3 27] [strA t10, .agg w3_39] (rT (rY e38 res_nil))
noncomputable def pattern_Quoted (call : CallF) (_ : Nat) (t0 : Bytes) (t1 : Int) (h : AHeap) : R :=
 lett (newH h 3 [.int .i64 t1]) fun h_2 =>
 lett (newH h_2 9 [.str 0 0]) fun h_4 =>
 lett (newH h_4 27 [.int .i64 0, .int .i64 0]) fun h_6 =>
 outK (opBox h_6 70 (some (.agg ([strA t0, .int .i64 0] : List AV)))) fun v10 h_9 =>
 lett (newH h_9 68 [.nilp]) fun h_11 =>
 obind (stRow h_11 1 (AV.cells v10) (newP h_9)) fun h_13 =>
 callN (call 35 [(AV.fn 36 [] [(newP h_9), (newP h), (newP h_2)])] h_13) fun r12 h_16 =>
 obind (avAgg r12) fun t12 =>
 obind (stRow h_16 2 t12 (newP h_4)) fun h_19 =>
 obind (ldCell h_19 (AV.ptr (AHeap.next h_4) 0)) fun v14 =>
 obind (avInt .i64 v14) fun t14 =>
 lett ((t14 : Int) != 0) fun (t15 : Bool) =>
 ifB t15
 (
  obind (ldRow h_19 2 (newP h_4)) fun t16 =>
  obind (stRow h_19 1 [strA ([] : Bytes)] (newP h_2)) fun h_28 =>
  chk (reLoad Pg h_28 27 (newP h_4) (.agg t16) && true) <|
  obind (stRow h_28 2 t16 (newP h_4)) fun h_31 =>
  obind (ldCell h_31 (newP h_2)) fun w4 =>
  obind (ldRow h_31 2 (newP h_4)) fun w6 =>
  some (.ret (.tup [w4, .int .i64 0, .agg w6]), h_31))
 (
  obind (ldCell h_19 (newP h_2)) fun v17 =>
  obind (avStr v17) fun t17 =>
  obind (ldCell h_19 (newP h_9)) fun v18 =>
  obind (nilC v18) fun t19 =>
  obind (fldP 1 t19) fun t20 =>
  obind (ldCell h_19 t20) fun v21 =>
  obind (avInt .i64 v21) fun t21 =>
  obind (ldRow h_19 2 (newP h_4)) fun t22 =>
  obind (stRow h_19 1 [strA t17] (newP h_2)) fun h_44 =>
  chk (reLoad Pg h_44 27 (newP h_4) (.agg t22) && (reLoad Pg h_44 3 t20 (.int .i64 t21) && (reLoad Pg h_44 68 (newP h_9) v18 && (true && true)))) <|
  obind (stRow h_44 2 t22 (newP h_4)) fun h_47 =>
  obind (ldCell h_47 (newP h_2)) fun w4_50 =>
  obind (ldRow h_47 2 (newP h_4)) fun w6_52 =>
  some (.ret (.tup [w4_50, .int .i64 t21, .agg w6_52]), h_47))
theorem pattern_Quoted_ok {call : CallF} (hc : SaysAll Pg call) {n : Nat} {t0 : Bytes} {t1 : Int} {h : AHeap} {rR : ARes} {hR : AHeap} (z : pattern_Quoted call n t0 t1 h = some (rR, hR)) : Says Pg 19 [strA t0, .int .i64 t1] h rR hR := by
 unfold pattern_Quoted at z
 refine sO Try.func19 fun w0 m0 => ?_
 refine wW [(0, strA t0), (1, .int .i64 t1)] ?_
 refine oG fun n1 => W.r ?_
 refine oN 3 z fun h_2 z => ?_
 refine oN 4 z fun h_4 z => ?_
 refine oA 5 (.int .i64 0) ?_
 refine oN 6 z fun h_6 z => ?_
 refine oV [(0, strA t0), (3, newP h), (4, newP h_2), (6, newP h_4)] (n1 ?_)
 refine oG fun n8 => W.r ?_
 refine oA 8 (strA t0) ?_
 refine oA 9 (.agg ([strA t0, .int .i64 0] : List AV)) ?_
 refine oK 10 z fun v10 h_9 z => ?_
 refine oN 7 z fun h_11 z => ?_
 refine oW 68 v10 z fun h_13 z => ?_
 refine oV [(3, newP h), (4, newP h_2), (6, newP h_4), (7, newP h_9)] (n8 ?_)
 refine oG fun n15 => W.r ?_
 refine oA 11 (AV.fn 36 [] [(newP h_9), (newP h), (newP h_2)]) ?_
 refine oCa hc 12 z fun t12 h_16 z => ?_
 refine oW 27 (.agg t12) z fun h_19 z => ?_
 refine oV [(4, newP h_2), (6, newP h_4), (7, newP h_9)] (n15 ?_)
 refine oH fun n21 q21 => ?_
 refine oG fun n22 => W.r ?_
 refine oA 13 (AV.ptr (AHeap.next h_4) 0) ?_
 refine oLi 14 25 z fun t14 z => ?_
 refine oB 15 z fun t15 z => ?_
 refine oV [(4, newP h_2), (6, newP h_4), (7, newP h_9), (15, .bool t15)] (n22 ?_)
 cases t15 with
 | true =>
  refine oT z fun z => ?_
  refine oG fun n26 => ?_
  refine W.draw (by kernel_rfl) (hc.ok w0) (plan := [0, 1, 2, 3]) (by kernel_rfl) (by kernel_rfl) (by kernel_rfl) ?_
  obtain ⟨t16, e27, z⟩ := oS z
  refine WD.b 1 (some 16) (.agg t16) h_19 (load_row (P := Pg) (h := h_19) (t := 27) (by kernel_rfl) (by kernel_rfl) e27) ?_
  obtain ⟨h_28, e29, z⟩ := oS z
  obtain ⟨k30, z⟩ := chk_some z
  refine WD.eff (h' := h_28) (by kernel_rfl) (by kernel_rfl) (Eq.trans (by kernel_rfl) (store_row (P := Pg) (h := h_19) (t := 9) (v := (strA ([] : Bytes))) (by kernel_rfl) (by kernel_rfl) e29)) (k := 2) (by kernel_rfl) (fun _ => (Eq.trans (by kernel_rfl) k30)) (by decide) ?_
  refine WD.a 0 (some 5) (.int .i64 0) h_28 ?_
  obtain ⟨h_31, e32, z⟩ := oS z
  refine WD.eff (h' := h_31) (by kernel_rfl) (by kernel_rfl) (Eq.trans (by kernel_rfl) (store_row (P := Pg) (h := h_28) (t := 27) (v := (.agg t16)) (by kernel_rfl) (by kernel_rfl) e32)) (k := 2) (by kernel_rfl) (fun _ => (by kernel_rfl)) (by decide) ?_
  refine WD.nil ?_
  refine gW [(4, newP h_2), (5, .int .i64 0), (6, newP h_4)] (n26 (oY (q21 ?_)))
  obtain ⟨w4, e33, z⟩ := oS z
  obtain ⟨w6, e34, z⟩ := oS z
  exact lZ z [.cell 4 9, .tmp 5, .cell 6 27] [w4, .int .i64 0, .agg w6] (rC e33 (rT (rY e34 res_nil)))
 | false =>
  refine oU z fun z => ?_
  refine oZ (n21 ?_)
  refine oG fun n35 => ?_
  refine W.draw (by kernel_rfl) (hc.ok w0) (plan := [0, 1, 2, 3, 4, 5, 6, 7, 8]) (by kernel_rfl) (by kernel_rfl) (by kernel_rfl) ?_
  replace z := oS z; obtain ⟨v17, e36, z⟩ := z
  replace z := oS z; obtain ⟨t17, c37, z⟩ := z
  have c37 := avStr_some c37
  subst c37
  refine WD.b 1 (some 17) (strA t17) h_19 (load_cell (P := Pg) (h := h_19) (t := 9) (by kernel_rfl) e36) ?_
  obtain ⟨v18, e38, z⟩ := oS z
  refine WD.b 1 (some 18) v18 h_19 (load_cell (P := Pg) (h := h_19) (t := 68) (by kernel_rfl) e38) ?_
  obtain ⟨t19, e39, z⟩ := oS z
  refine WD.b 0 (some 19) t19 h_19 (nil_chk (h := h_19) e39) ?_
  obtain ⟨t20, e40, z⟩ := oS z
  refine WD.b 0 (some 20) t20 h_19 (field_ptr (P := Pg) (h := h_19) (s := 70) (f := 1) (by kernel_rfl) e40) ?_
  replace z := oS z; obtain ⟨v21, e41, z⟩ := z
  replace z := oS z; obtain ⟨t21, c42, z⟩ := z
  have c42 := avInt_some c42
  subst c42
  refine WD.b 1 (some 21) (.int .i64 t21) h_19 (load_cell (P := Pg) (h := h_19) (t := 3) (by kernel_rfl) e41) ?_
  obtain ⟨t22, e43, z⟩ := oS z
  refine WD.b 1 (some 22) (.agg t22) h_19 (load_row (P := Pg) (h := h_19) (t := 27) (by kernel_rfl) (by kernel_rfl) e43) ?_
  obtain ⟨h_44, e45, z⟩ := oS z
  obtain ⟨k46, z⟩ := chk_some z
  refine WD.eff (h' := h_44) (by kernel_rfl) (by kernel_rfl) (Eq.trans (by kernel_rfl) (store_row (P := Pg) (h := h_19) (t := 9) (v := (strA t17)) (by kernel_rfl) (by kernel_rfl) e45)) (k := 2) (by kernel_rfl) (fun _ => (Eq.trans (by kernel_rfl) k46)) (by decide) ?_
  refine WD.a 0 (some 5) (.int .i64 t21) h_44 ?_
  obtain ⟨h_47, e48, z⟩ := oS z
  refine WD.eff (h' := h_47) (by kernel_rfl) (by kernel_rfl) (Eq.trans (by kernel_rfl) (store_row (P := Pg) (h := h_44) (t := 27) (v := (.agg t22)) (by kernel_rfl) (by kernel_rfl) e48)) (k := 2) (by kernel_rfl) (fun _ => (by kernel_rfl)) (by decide) ?_
  refine WD.nil ?_
  refine gW [(4, newP h_2), (5, .int .i64 t21), (6, newP h_4)] (n35 (oY ?_))
  obtain ⟨w4_50, e49, z⟩ := oS z
  obtain ⟨w6_52, e51, z⟩ := oS z
  exact lZ z [.cell 4 9, .tmp 5, .cell 6 27] [w4_50, .int .i64 t21, .agg w6_52] (rC e49 (rT (rY e51 res_nil)))
noncomputable def pattern_Quoted_1 (call : CallF) (_ : Nat) (t0 : AV) (t1 : AV) (t2 : AV) (h : AHeap) : R :=
 obind (ldCell h t0) fun v3 =>
 obind (ldCell h t1) fun v4 =>
 obind (avInt .i64 v4) fun t4 =>
 callK (call 37 [v3, .int .i64 t4] h) fun r5 h_4 =>
 obind (avStr r5) fun t5 =>
 obind (stRow h_4 1 [strA t5] t2) fun h_7 =>
 some (.ret (.tup []), h_7)
theorem pattern_Quoted_1_ok {call : CallF} (hc : SaysAll Pg call) {n : Nat} {t0 : AV} {t1 : AV} {t2 : AV} {h : AHeap} {rR : ARes} {hR : AHeap} (z : pattern_Quoted_1 call n t0 t1 t2 h = some (rR, hR)) : Says Pg 36 [t0, t1, t2] h rR hR := by
 unfold pattern_Quoted_1 at z
 refine sO Try.func36 fun w0 m0 => ?_
 refine wW [(0, t0), (1, t1), (2, t2)] ?_
 refine W.r ?_
 refine oL 3 68 z fun v3 z => ?_
 refine oLi 4 3 z fun t4 z => ?_
 refine oCK hc (some 5) z (fun q => Pf q) fun r5 h_4 z => ?_
 replace z := oS z; obtain ⟨t5, c6, z⟩ := z
 have c6 := avStr_some c6
 subst c6
 refine oW 9 (strA t5) z fun h_7 z => ?_
 refine oV [] ?_
 exact lY z [] [] res_nil
set_option maxHeartbeats 4000000
set_option maxRecDepth 20000
noncomputable def pattern_Tree (call : CallF) (_ : Nat) (t0 : List AV) (h : AHeap) : R :=
 outK (opBox h 35 (some (.agg t0))) fun v1 h_2 =>
 lett (newH h_2 41 [.int .i64 0, .int .u64 0, .int .u64 0, .int .u64 0, .int .u64 0, .nsl]) fun h_4 =>
 lett (newH h_4 27 [.int .i64 0, .int .i64 0]) fun h_6 =>
 obind (fldP 0 v1) fun t5 =>
 obind (ldCell h_6 t5) fun v6 =>
 obind (avInt .i64 v6) fun t6 =>
 lett ((t6 : Int) != 1) fun (t7 : Bool) =>
 lett (fun (t12 : Bool) (h_14 : AHeap) =>
  lett (fun (t17 : Bool) (h_17 : AHeap) =>
   ifB t17
   (
    obind (stRow h_17 6 ([.int .i64 0, .int .u64 0, .int .u64 0, .int .u64 0, .int .u64 0, .nsl] : List AV) (newP h_2)) fun h_21 =>
    obind (stRow h_21 2 ([.int .i64 2, .int .i64 0] : List AV) (newP h_4)) fun h_23 =>
    obind (ldRow h_23 6 (newP h_2)) fun w2 =>
    obind (ldRow h_23 2 (newP h_4)) fun w3 =>
    some (.ret (.tup [.agg w2, .agg w3]), h_23))
   (
    obind (fldP 1 v1) fun t20 =>
    obind (ldCell h_17 t20) fun v21 =>
    obind (avStr v21) fun t21 =>
    lett (decide ((lenS t21) > 64)) fun (t23 : Bool) =>
    ifB t23
    (
     obind (stRow h_17 6 ([.int .i64 0, .int .u64 0, .int .u64 0, .int .u64 0, .int .u64 0, .nsl] : List AV) (newP h_2)) fun h_34 =>
     obind (stRow h_34 2 ([.int .i64 3, .int .i64 64] : List AV) (newP h_4)) fun h_36 =>
     obind (ldRow h_36 6 (newP h_2)) fun w2_39 =>
     obind (ldRow h_36 2 (newP h_4)) fun w3_41 =>
     some (.ret (.tup [.agg w2_39, .agg w3_41]), h_36))
    (
     obind (fldP 1 v1) fun t26 =>
     obind (ldCell h_17 t26) fun v27 =>
     obind (avStr v27) fun t27 =>
     outK (opBox h_17 70 (some (.agg ([strA t27, .int .i64 0] : List AV)))) fun v29 h_46 =>
     lett (newH h_46 68 [.nilp]) fun h_48 =>
     obind (stRow h_48 1 (AV.cells v29) (newP h_46)) fun h_50 =>
     callN (call 35 [(AV.fn 39 [] [(newP h_46), v1, (newP h_2)])] h_50) fun r31 h_53 =>
     obind (avAgg r31) fun t31 =>
     obind (stRow h_53 2 t31 (newP h_4)) fun h_56 =>
     obind (ldCell h_56 (AV.ptr (AHeap.next h_4) 0)) fun v33 =>
     obind (avInt .i64 v33) fun t33 =>
     lett ((t33 : Int) != 0) fun (t34 : Bool) =>
     ifB t34
     (
      obind (ldRow h_56 2 (newP h_4)) fun t36 =>
      obind (stRow h_56 6 ([.int .i64 0, .int .u64 0, .int .u64 0, .int .u64 0, .int .u64 0, .nsl] : List AV) (newP h_2)) fun h_65 =>
      chk (reLoad Pg h_65 27 (newP h_4) (.agg t36) && true) <|
      obind (stRow h_65 2 t36 (newP h_4)) fun h_68 =>
      obind (ldRow h_68 6 (newP h_2)) fun w2_71 =>
      obind (ldRow h_68 2 (newP h_4)) fun w3_73 =>
      some (.ret (.tup [.agg w2_71, .agg w3_73]), h_68))
     (
      obind (ldRow h_56 6 (newP h_2)) fun t37 =>
      obind (ldRow h_56 2 (newP h_4)) fun t38 =>
      obind (stRow h_56 6 t37 (newP h_2)) fun h_77 =>
      chk (reLoad Pg h_77 27 (newP h_4) (.agg t38) && (true && true)) <|
      obind (stRow h_77 2 t38 (newP h_4)) fun h_80 =>
      obind (ldRow h_80 6 (newP h_2)) fun w2_83 =>
      obind (ldRow h_80 2 (newP h_4)) fun w3_85 =>
      some (.ret (.tup [.agg w2_83, .agg w3_85]), h_80))))) fun j17 =>
  ifB t12
  (
   obind (fldP 0 v1) fun t14 =>
   obind (ldCell h_14 t14) fun v15 =>
   obind (avInt .i64 v15) fun t15 =>
   lett ((t15 : Int) != 3) fun (t16 : Bool) =>
   j17 t16 h_14)
  (
   j17 false h_14)) fun j12 =>
 ifB t7
 (
  obind (fldP 0 v1) fun t9 =>
  obind (ldCell h_6 t9) fun v10 =>
  obind (avInt .i64 v10) fun t10 =>
  lett ((t10 : Int) != 2) fun (t11 : Bool) =>
  j12 t11 h_6)
 (
  j12 false h_6)
theorem pattern_Tree_ok {call : CallF} (hc : SaysAll Pg call) {n : Nat} {t0 : List AV} {h : AHeap} {rR : ARes} {hR : AHeap} (z : pattern_Tree call n t0 h = some (rR, hR)) : Says Pg 21 [.agg t0] h rR hR := by
 unfold pattern_Tree at z
 refine sO Try.func21 fun w0 m0 => ?_
 refine wW [(0, .agg t0)] ?_
 refine oG fun n1 => W.r ?_
 refine oK 1 z fun v1 h_2 z => ?_
 refine oN 2 z fun h_4 z => ?_
 refine oN 3 z fun h_6 z => ?_
 refine oV [(1, v1), (2, newP h_2), (3, newP h_4)] (n1 ?_)
 refine oH fun n8 q8 => ?_
 refine W.s (fun K9 n9 _ _ _ => ?_)
 refine W.r ?_
 refine oF 5 35 0 z fun t5 z => ?_
 refine oLi 6 3 z fun t6 z => ?_
 refine oB 7 z fun t7 z => ?_
 refine oA 8 (.bool t7) ?_
 obtain ⟨j12, e15, z⟩ := lS z
 have J16 : ∀ (t12 : Bool) (h_14 : AHeap), j12 t12 h_14 = some (rR, hR) → WL Pg w0 m0 (Func.ntmps Try.f21) (Code.ops (Code.p1 (Code.p1 (Code.p2 (codeOf Try.f21))))) 8 K9 [(1, v1), (2, newP h_2), (3, newP h_4), (12, .bool t12)] [] h_14 := by
  intro t12 h_14 z
  rw [e15] at z
  refine oA 13 (.bool t12) ?_
  obtain ⟨j17, e18, z⟩ := lS z
  have J19 : ∀ (t17 : Bool) (h_17 : AHeap), j17 t17 h_17 = some (rR, hR) → WL Pg w0 m0 (Func.ntmps Try.f21) (Code.ops (Code.p1 (Code.p1 (Code.p2 (codeOf Try.f21))))) 13 K9 [(1, v1), (2, newP h_2), (3, newP h_4), (17, .bool t17)] [] h_17 := by
   intro t17 h_17 z
   rw [e18] at z
   refine oV [(1, v1), (2, newP h_2), (3, newP h_4), (17, .bool t17)] (n9 ?_)
   cases t17 with
   | true =>
    refine oT z fun z => ?_
    refine oG fun n20 => W.r ?_
    refine oA 18 (.agg ([.int .i64 0, .int .u64 0, .int .u64 0, .int .u64 0, .int .u64 0, .nsl] : List AV)) ?_
    refine oA 19 (.agg ([.int .i64 2, .int .i64 0] : List AV)) ?_
    refine oW 41 (.agg ([.int .i64 0, .int .u64 0, .int .u64 0, .int .u64 0, .int .u64 0, .nsl] : List AV)) z fun h_21 z => ?_
    refine oW 27 (.agg ([.int .i64 2, .int .i64 0] : List AV)) z fun h_23 z => ?_
    refine oV [(2, newP h_2), (3, newP h_4)] (n20 (oY (q8 ?_)))
    obtain ⟨w2, e25, z⟩ := oS z
    obtain ⟨w3, e26, z⟩ := oS z
    exact lZ z [.cell 2 41, .cell 3 27] [.agg w2, .agg w3] (rY e25 (rY e26 res_nil))
   | false =>
    refine oU z fun z => ?_
    refine oZ (n8 ?_)
    refine oH fun n27 q27 => ?_
    refine oG fun n28 => W.r ?_
    refine oF 20 35 1 z fun t20 z => ?_
    refine oLs 21 9 z fun t21 z => ?_
    refine oA 22 (.int .i64 (lenS t21)) ?_
    refine oB 23 z fun t23 z => ?_
    refine oV [(1, v1), (2, newP h_2), (3, newP h_4), (23, .bool t23)] (n28 ?_)
    cases t23 with
    | true =>
     refine oT z fun z => ?_
     refine oG fun n33 => W.r ?_
     refine oA 24 (.agg ([.int .i64 0, .int .u64 0, .int .u64 0, .int .u64 0, .int .u64 0, .nsl] : List AV)) ?_
     refine oA 25 (.agg ([.int .i64 3, .int .i64 64] : List AV)) ?_
     refine oW 41 (.agg ([.int .i64 0, .int .u64 0, .int .u64 0, .int .u64 0, .int .u64 0, .nsl] : List AV)) z fun h_34 z => ?_
     refine oW 27 (.agg ([.int .i64 3, .int .i64 64] : List AV)) z fun h_36 z => ?_
     refine oV [(2, newP h_2), (3, newP h_4)] (n33 (oY (q27 ?_)))
     obtain ⟨w2_39, e38, z⟩ := oS z
     obtain ⟨w3_41, e40, z⟩ := oS z
     exact lZ z [.cell 2 41, .cell 3 27] [.agg w2_39, .agg w3_41] (rY e38 (rY e40 res_nil))
    | false =>
     refine oU z fun z => ?_
     refine oZ (n27 ?_)
     refine oG fun n42 => W.r ?_
     refine oF 26 35 1 z fun t26 z => ?_
     refine oLs 27 9 z fun t27 z => ?_
     refine oA 28 (.agg ([strA t27, .int .i64 0] : List AV)) ?_
     refine oK 29 z fun v29 h_46 z => ?_
     refine oN 4 z fun h_48 z => ?_
     refine oW 68 v29 z fun h_50 z => ?_
     refine oV [(1, v1), (2, newP h_2), (3, newP h_4), (4, newP h_46)] (n42 ?_)
     refine oG fun n52 => W.r ?_
     refine oA 30 (AV.fn 39 [] [(newP h_46), v1, (newP h_2)]) ?_
     refine oCa hc 31 z fun t31 h_53 z => ?_
     refine oW 27 (.agg t31) z fun h_56 z => ?_
     refine oV [(2, newP h_2), (3, newP h_4)] (n52 ?_)
     refine oH fun n58 q58 => ?_
     refine oG fun n59 => W.r ?_
     refine oA 32 (AV.ptr (AHeap.next h_4) 0) ?_
     refine oLi 33 25 z fun t33 z => ?_
     refine oB 34 z fun t34 z => ?_
     refine oV [(2, newP h_2), (3, newP h_4), (34, .bool t34)] (n59 ?_)
     cases t34 with
     | true =>
      refine oT z fun z => ?_
      refine oG fun n63 => ?_
      refine W.draw (by kernel_rfl) (hc.ok w0) (plan := [0, 1, 2, 3]) (by kernel_rfl) (by kernel_rfl) (by kernel_rfl) ?_
      refine WD.a 0 (some 35) (.agg ([.int .i64 0, .int .u64 0, .int .u64 0, .int .u64 0, .int .u64 0, .nsl] : List AV)) h_56 ?_
      obtain ⟨t36, e64, z⟩ := oS z
      refine WD.b 1 (some 36) (.agg t36) h_56 (load_row (P := Pg) (h := h_56) (t := 27) (by kernel_rfl) (by kernel_rfl) e64) ?_
      obtain ⟨h_65, e66, z⟩ := oS z
      obtain ⟨k67, z⟩ := chk_some z
      refine WD.eff (h' := h_65) (by kernel_rfl) (by kernel_rfl) (Eq.trans (by kernel_rfl) (store_row (P := Pg) (h := h_56) (t := 41) (v := (.agg ([.int .i64 0, .int .u64 0, .int .u64 0, .int .u64 0, .int .u64 0, .nsl] : List AV))) (by kernel_rfl) (by kernel_rfl) e66)) (k := 2) (by kernel_rfl) (fun _ => (Eq.trans (by kernel_rfl) k67)) (by decide) ?_
      obtain ⟨h_68, e69, z⟩ := oS z
      refine WD.eff (h' := h_68) (by kernel_rfl) (by kernel_rfl) (Eq.trans (by kernel_rfl) (store_row (P := Pg) (h := h_65) (t := 27) (v := (.agg t36)) (by kernel_rfl) (by kernel_rfl) e69)) (k := 2) (by kernel_rfl) (fun _ => (by kernel_rfl)) (by decide) ?_
      refine WD.nil ?_
      refine gW [(2, newP h_2), (3, newP h_4)] (n63 (oY (q58 ?_)))
      obtain ⟨w2_71, e70, z⟩ := oS z
      obtain ⟨w3_73, e72, z⟩ := oS z
      exact lZ z [.cell 2 41, .cell 3 27] [.agg w2_71, .agg w3_73] (rY e70 (rY e72 res_nil))
     | false =>
      refine oU z fun z => ?_
      refine oZ (n58 ?_)
      refine oG fun n74 => ?_
      refine W.draw (by kernel_rfl) (hc.ok w0) (plan := [0, 1, 2, 3]) (by kernel_rfl) (by kernel_rfl) (by kernel_rfl) ?_
      obtain ⟨t37, e75, z⟩ := oS z
      refine WD.b 1 (some 37) (.agg t37) h_56 (load_row (P := Pg) (h := h_56) (t := 41) (by kernel_rfl) (by kernel_rfl) e75) ?_
      obtain ⟨t38, e76, z⟩ := oS z
      refine WD.b 1 (some 38) (.agg t38) h_56 (load_row (P := Pg) (h := h_56) (t := 27) (by kernel_rfl) (by kernel_rfl) e76) ?_
      obtain ⟨h_77, e78, z⟩ := oS z
      obtain ⟨k79, z⟩ := chk_some z
      refine WD.eff (h' := h_77) (by kernel_rfl) (by kernel_rfl) (Eq.trans (by kernel_rfl) (store_row (P := Pg) (h := h_56) (t := 41) (v := (.agg t37)) (by kernel_rfl) (by kernel_rfl) e78)) (k := 2) (by kernel_rfl) (fun _ => (Eq.trans (by kernel_rfl) k79)) (by decide) ?_
      obtain ⟨h_80, e81, z⟩ := oS z
      refine WD.eff (h' := h_80) (by kernel_rfl) (by kernel_rfl) (Eq.trans (by kernel_rfl) (store_row (P := Pg) (h := h_77) (t := 27) (v := (.agg t38)) (by kernel_rfl) (by kernel_rfl) e81)) (k := 2) (by kernel_rfl) (fun _ => (by kernel_rfl)) (by decide) ?_
      refine WD.nil ?_
      refine gW [(2, newP h_2), (3, newP h_4)] (n74 (oY ?_))
      obtain ⟨w2_83, e82, z⟩ := oS z
      obtain ⟨w3_85, e84, z⟩ := oS z
      exact lZ z [.cell 2 41, .cell 3 27] [.agg w2_83, .agg w3_85] (rY e82 (rY e84 res_nil))
  cases t12 with
  | true =>
   replace z := ifB_t z
   refine oF 14 35 0 z fun t14 z => ?_
   refine oLi 15 3 z fun t15 z => ?_
   refine oB 16 z fun t16 z => ?_
   refine oA 17 (.bool t16) ?_
   exact lW _ (J19 _ _ z)
  | false =>
   replace z := ifB_f z
   refine WL.o (some 14) ?_
   refine WL.o (some 15) ?_
   refine WL.o (some 16) ?_
   refine oA 17 (.bool false) ?_
   exact lW _ (J19 _ _ z)
 cases t7 with
 | true =>
  replace z := ifB_t z
  refine oF 9 35 0 z fun t9 z => ?_
  refine oLi 10 3 z fun t10 z => ?_
  refine oB 11 z fun t11 z => ?_
  refine oA 12 (.bool t11) ?_
  exact lW _ (J16 _ _ z)
 | false =>
  replace z := ifB_f z
  refine WL.o (some 9) ?_
  refine WL.o (some 10) ?_
  refine WL.o (some 11) ?_
  refine oA 12 (.bool false) ?_
  exact lW _ (J16 _ _ z)
noncomputable def pattern_Tree_1 (call : CallF) (_ : Nat) (t0 : AV) (t1 : AV) (t2 : AV) (h : AHeap) : R :=
 obind (ldCell h t0) fun v3 =>
 obind (fldP 0 t1) fun t4 =>
 obind (ldCell h t4) fun v5 =>
 obind (avInt .i64 v5) fun t5 =>
 callK (call 40 [v3, .int .i64 t5] h) fun r6 h_5 =>
 obind (avAgg r6) fun t6 =>
 obind (stRow h_5 6 t6 t2) fun h_8 =>
 some (.ret (.tup []), h_8)
theorem pattern_Tree_1_ok {call : CallF} (hc : SaysAll Pg call) {n : Nat} {t0 : AV} {t1 : AV} {t2 : AV} {h : AHeap} {rR : ARes} {hR : AHeap} (z : pattern_Tree_1 call n t0 t1 t2 h = some (rR, hR)) : Says Pg 39 [t0, t1, t2] h rR hR := by
 unfold pattern_Tree_1 at z
 refine sO Try.func39 fun w0 m0 => ?_
 refine wW [(0, t0), (1, t1), (2, t2)] ?_
 refine W.r ?_
 refine oL 3 68 z fun v3 z => ?_
 refine oF 4 35 0 z fun t4 z => ?_
 refine oLi 5 3 z fun t5 z => ?_
 refine oCK hc (some 6) z (fun q => Pf q) fun r6 h_5 z => ?_
 replace z := oS z; obtain ⟨t6, c7, z⟩ := z
 have c7 := avAgg_some c7
 subst c7
 refine oW 41 (.agg t6) z fun h_8 z => ?_
 refine oV [] ?_
 exact lY z [] [] res_nil
noncomputable def pattern_reader_tree (call : CallF) (_ : Nat) (t0 : AV) (t1 : Int) (h : AHeap) : R :=
 lett (newH h 41 [.int .i64 0, .int .u64 0, .int .u64 0, .int .u64 0, .int .u64 0, .nsl]) fun h_2 =>
 lett ((t1 : Int) == 2) fun (t8 : Bool) =>
 ifB t8
 (
  callK (call 59 [t0, (AV.fn 60 [t0] [])] h_2) fun r12 h_10 =>
  obind (avAgg r12) fun t12 =>
  obind (stRow h_10 6 t12 (newP h)) fun h_13 =>
  obind (ldRow h_13 6 (newP h)) fun w4 =>
  some (.ret (.agg w4), h_13))
 (
  lett ((t1 : Int) == 3) fun (t14 : Bool) =>
  ifB t14
  (
   callK (call 61 [t0] h_2) fun r16 h_20 =>
   obind (avAgg r16) fun t16 =>
   lett (newH h_20 41 [.int .i64 0, .int .u64 0, .int .u64 0, .int .u64 0, .int .u64 0, .nsl]) fun h_23 =>
   obind (stRow h_23 6 t16 (newP h_20)) fun h_25 =>
   callK (call 62 [t0] h_25) fun _ h_28 =>
   obind (ldRow h_28 6 (newP h_20)) fun t19 =>
   obind (stRow h_28 6 t19 (newP h)) fun h_32 =>
   obind (ldRow h_32 6 (newP h)) fun w4_35 =>
   some (.ret (.agg w4_35), h_32))
  (
   callK (call 59 [t0, (AV.fn 63 [t0] [])] h_2) fun r23 h_39 =>
   obind (avAgg r23) fun t23 =>
   obind (stRow h_39 6 t23 (newP h)) fun h_42 =>
   obind (ldRow h_42 6 (newP h)) fun w4_45 =>
   some (.ret (.agg w4_45), h_42)))
theorem pattern_reader_tree_ok {call : CallF} (hc : SaysAll Pg call) {n : Nat} {t0 : AV} {t1 : Int} {h : AHeap} {rR : ARes} {hR : AHeap} (z : pattern_reader_tree call n t0 t1 h = some (rR, hR)) : Says Pg 40 [t0, .int .i64 t1] h rR hR := by
 unfold pattern_reader_tree at z
 refine sO Try.func40 fun w0 m0 => ?_
 refine wW [(0, t0), (1, .int .i64 t1)] ?_
 refine oG fun n1 => W.r ?_
 refine oN 4 z fun h_2 z => ?_
 refine oV [(0, t0), (1, .int .i64 t1), (4, newP h)] (n1 ?_)
 refine W.s (fun _ n4 _ q4 p4 => ?_)
 refine oG fun n5 => W.r ?_
 refine oA 6 (.int .i64 t1) ?_
 refine oV [(0, t0), (4, newP h), (6, .int .i64 t1)] (n5 ?_)
 refine W.blockK (by kernel_rfl) (fun K6 n6 s6 o6 q6 p6 => ?_)
 refine oG fun n7 => W.r ?_
 refine oB 8 z fun t8 z => ?_
 refine oA 7 (.bool t8) ?_
 refine oV [(0, t0), (4, newP h), (6, .int .i64 t1), (7, .bool t8)] (n7 ?_)
 cases t8 with
 | true =>
  refine oT z fun z => ?_
  refine oJ fun n9 p9 => W.r ?_
  refine oA 9 t0 ?_
  refine oA 10 t0 ?_
  refine oA 11 (AV.fn 60 [t0] []) ?_
  refine oCK hc (some 12) z (fun q => p9 (p6 (p4 (Pf q)))) fun r12 h_10 z => ?_
  replace z := oS z; obtain ⟨t12, c12, z⟩ := z
  have c12 := avAgg_some c12
  subst c12
  refine oW 41 (.agg t12) z fun h_13 z => ?_
  refine oV [(4, newP h)] (n9 (oY (q6 (q4 ?_))))
  obtain ⟨w4, e15, z⟩ := oS z
  exact lZ z [.cell 4 41] [.agg w4] (rY e15 res_nil)
 | false =>
  refine oU z fun z => ?_
  refine oG fun n17 => W.r ?_
  refine oB 14 z fun t14 z => ?_
  refine oA 13 (.bool t14) ?_
  refine oV [(0, t0), (4, newP h), (13, .bool t14)] (n17 ?_)
  cases t14 with
  | true =>
   refine oT z fun z => ?_
   refine oJ fun n19 p19 => W.r ?_
   refine oA 15 t0 ?_
   refine oCK hc (some 16) z (fun q => p19 (p6 (p4 (Pf q)))) fun r16 h_20 z => ?_
   replace z := oS z; obtain ⟨t16, c22, z⟩ := z
   have c22 := avAgg_some c22
   subst c22
   refine oN 5 z fun h_23 z => ?_
   refine oW 41 (.agg t16) z fun h_25 z => ?_
   refine oV [(0, t0), (4, newP h), (5, newP h_20)] (n19 ?_)
   refine oJ fun n27 p27 => W.r ?_
   refine oA 17 t0 ?_
   refine oCK hc (some 18) z (fun q => p27 (p6 (p4 (Pf q)))) fun r18 h_28 z => ?_
   refine oV [(4, newP h), (5, newP h_20)] (n27 ?_)
   refine oG fun n30 => W.r ?_
   refine oR 19 41 z fun t19 z => ?_
   refine oW 41 (.agg t19) z fun h_32 z => ?_
   refine oV [(4, newP h)] (n30 (oY (q6 (q4 ?_))))
   obtain ⟨w4_35, e34, z⟩ := oS z
   exact lZ z [.cell 4 41] [.agg w4_35] (rY e34 res_nil)
  | false =>
   refine oU z fun z => ?_
   refine oZ (n6 (n4 ?_))
   refine oJ fun n38 p38 => W.r ?_
   refine oA 20 t0 ?_
   refine oA 21 t0 ?_
   refine oA 22 (AV.fn 63 [t0] []) ?_
   refine oCK hc (some 23) z (fun q => p38 (Pf q)) fun r23 h_39 z => ?_
   replace z := oS z; obtain ⟨t23, c41, z⟩ := z
   have c41 := avAgg_some c41
   subst c41
   refine oW 41 (.agg t23) z fun h_42 z => ?_
   refine oV [(4, newP h)] (n38 (oY ?_))
   obtain ⟨w4_45, e44, z⟩ := oS z
   exact lZ z [.cell 4 41] [.agg w4_45] (rY e44 res_nil)
noncomputable def pattern_reader_row_L0b (call : CallF) (t0 : AV) (t1 : AV) (k7 : AV → AHeap → R) (self : AV → AHeap → R) (t5_17 : AV) (h_18 : AHeap) : R :=
 callN (call 74 [t0] h_18) fun r7 h_21 =>
 obind (avBool r7) fun t7 =>
 lett (!t7) fun (t8 : Bool) =>
 ifB t8
 (
  callK (dynC Pg call t1 [] h_21) fun r11 h_26 =>
  obind (avAgg r11) fun t11 =>
  outK (bldSl Pg h_26 39 1 [(0, .agg t11)]) fun v12 h_29 =>
  outK (opAppend Pg h_29 39 39 t5_17 v12) fun v13 h_31 =>
  self v13 h_31)
 (
  k7 t5_17 h_21)
noncomputable def pattern_reader_row_L0 (call : CallF) (t0 : AV) (t1 : AV) (k7 : AV → AHeap → R) : Nat → AV → AHeap → R := iterR (fun _ _ => none) (pattern_reader_row_L0b call t0 t1 k7)
theorem pattern_reader_row_L0_s (call : CallF) (t0 : AV) (t1 : AV) (k7 : AV → AHeap → R) (m : Nat) : pattern_reader_row_L0 call t0 t1 k7 (m + 1) = pattern_reader_row_L0b call t0 t1 k7 (pattern_reader_row_L0 call t0 t1 k7 m) := rfl
noncomputable def pattern_reader_row (call : CallF) (n : Nat) (t0 : AV) (t1 : AV) (h : AHeap) : R :=
 lett (newH h 41 [.int .i64 0, .int .u64 0, .int .u64 0, .int .u64 0, .int .u64 0, .nsl]) fun h_2 =>
 lett (fun (t5 : AV) (h_8 : AHeap) =>
  callN (call 75 [t5] h_8) fun r15 h_10 =>
  obind (avAgg r15) fun t15 =>
  obind (stRow h_10 6 t15 (newP h)) fun h_13 =>
  obind (ldRow h_13 6 (newP h)) fun w4 =>
  some (.ret (.agg w4), h_13)) fun k7 =>
 pattern_reader_row_L0 call t0 t1 k7 n AV.nsl h_2
theorem pattern_reader_row_ok {call : CallF} (hc : SaysAll Pg call) {n : Nat} {t0 : AV} {t1 : AV} {h : AHeap} {rR : ARes} {hR : AHeap} (z : pattern_reader_row call n t0 t1 h = some (rR, hR)) : Says Pg 59 [t0, t1] h rR hR := by
 unfold pattern_reader_row at z
 refine sO Try.func59 fun w0 m0 => ?_
 refine wW [(0, t0), (1, t1)] ?_
 refine oG fun n1 => W.r ?_
 refine oN 4 z fun h_2 z => ?_
 refine oV [(0, t0), (1, t1), (4, newP h)] (n1 ?_)
 refine oG fun n4 => W.r ?_
 refine oA 5 AV.nsl ?_
 refine oV [(0, t0), (1, t1), (4, newP h), (5, AV.nsl)] (n4 ?_)
 refine W.s (fun K5 n5 _ _ p5 => ?_)
 obtain ⟨k7, e7, z⟩ := lS z
 have J7 : ∀ (t5 : AV) (h_8 : AHeap), k7 t5 h_8 = some (rR, hR) → Go w0 m0 (Func.ntmps Try.f59) (K5 .normal) [(4, newP h), (5, t5)] [] h_8 := by
  intro t5 h_8 z
  rw [e7] at z
  refine n5 ?_
  refine oG fun n9 => W.r ?_
  refine oA 14 t5 ?_
  refine oCa hc 15 z fun t15 h_10 z => ?_
  refine oW 41 (.agg t15) z fun h_13 z => ?_
  refine oV [(4, newP h)] (n9 (oY ?_))
  obtain ⟨w4, e15, z⟩ := oS z
  exact lZ z [.cell 4 41] [.agg w4] (rY e15 res_nil)
 refine W.blockK (by kernel_rfl) (fun K6 n6 s6 o6 q6 p6 => ?_)
 refine W.loopK (by kernel_rfl) (fun I16 K16 b16 n16 e16 q16 p16 => ?_)
 have L16 : ∀ (m : Nat) (t5_17 : AV) (h_18 : AHeap), pattern_reader_row_L0 call t0 t1 k7 m t5_17 h_18 = some (rR, hR) → Go w0 m0 (Func.ntmps Try.f59) I16 [(0, t0), (1, t1), (4, newP h), (5, t5_17)] [] h_18 := by
  intro m
  induction m with
  | zero => intro t5_17 h_18 z; cases z
  | succ m ih16 =>
   intro t5_17 h_18 z
   rw [pattern_reader_row_L0_s] at z; unfold pattern_reader_row_L0b at z
   refine b16 ?_
   refine W.s (fun _ n19 e19 _ _ => ?_)
   refine oG fun n20 => W.r ?_
   refine oA 6 t0 ?_
   refine oCb hc 7 z fun t7 h_21 z => ?_
   refine oB 8 z fun t8 z => ?_
   refine oV [(0, t0), (1, t1), (4, newP h), (5, t5_17), (8, .bool t8)] (n20 ?_)
   cases t8 with
   | true =>
    refine oT z fun z => ?_
    refine oZ (n19 ?_)
    refine W.blockK (by kernel_rfl) (fun K25 n25 s25 o25 q25 p25 => ?_)
    refine W.r ?_
    refine oA 9 t5_17 ?_
    refine oA 10 t1 ?_
    replace z := callK_some z; rcases z with ⟨r11, h_26, e27, z⟩ | ⟨r11, h_26, e27, q34⟩
    ·replace z := oS z; obtain ⟨t11, c28, z⟩ := z
     have c28 := avAgg_some c28
     subst c28
     rcases dynC_some e27 with ⟨d33g, d33as, d33h, d331, d332⟩ | ⟨d33v, d33h, d331, d332⟩
     rotate_left
     ·cases d332
      refine WL.val (d := (some 11)) (by kernel_rfl) (by kernel_rfl) (Eq.trans (by kernel_rfl) d331) ?_
      obtain ⟨v12, h_29, e30, z⟩ := outK_some z
      refine WL.b (some 12) v12 h_29 e30 ?_
      obtain ⟨v13, h_31, e32, z⟩ := outK_some z
      refine WL.b (some 13) v13 h_31 e32 ?_
      refine oA 5 v13 ?_
      refine oV [(0, t0), (1, t1), (4, newP h), (5, v13)] (n25 (n16 ?_))
      exact gW _ (ih16 _ _ z)
     ·refine WL.call (hc.ok w0) (d := (some 11)) (by kernel_rfl) (by kernel_rfl) (Eq.trans (by kernel_rfl) d331) d332 ?_
      obtain ⟨v12, h_29, e30, z⟩ := outK_some z
      refine WL.b (some 12) v12 h_29 e30 ?_
      obtain ⟨v13, h_31, e32, z⟩ := outK_some z
      refine WL.b (some 13) v13 h_31 e32 ?_
      refine oA 5 v13 ?_
      refine oV [(0, t0), (1, t1), (4, newP h), (5, v13)] (n25 (n16 ?_))
      exact gW _ (ih16 _ _ z)
    ·obtain ⟨zq, zr⟩ := pan_inj q34; subst zq; subst zr
     rcases dynC_some e27 with ⟨d33g, d33as, d33h, d331, d332⟩ | ⟨d33v, d33h, d331, d332⟩
     ·exact WL.callPanic (hc.ok w0) (d := (some 11)) (by kernel_rfl) (by kernel_rfl) (Eq.trans (by kernel_rfl) d331) d332 (p25 (p16 (p6 (p5 Pan.fin))))
     ·cases d332
   | false =>
    refine oU z fun z => ?_
    refine W.exit (by kernel_rfl) ?_
    refine e19 (e16 ?_)
    refine s6 (by kernel_rfl) ?_
    exact gW _ (J7 _ _ z)
 exact gW _ (L16 _ _ _ z)
noncomputable def pattern_reader_literalPart (call : CallF) (_ : Nat) (t0 : AV) (h : AHeap) : R :=
 lett (newH h 41 [.int .i64 0, .int .u64 0, .int .u64 0, .int .u64 0, .int .u64 0, .nsl]) fun h_2 =>
 callK (call 71 [t0] h_2) fun r4 h_5 =>
 obind (avInt .u8 r4) fun t4 =>
 callN (call 78 [.int .u8 t4] h_5) fun r5 h_8 =>
 obind (avAgg r5) fun t5 =>
 obind (stRow h_8 6 t5 (newP h)) fun h_11 =>
 obind (ldRow h_11 6 (newP h)) fun w2 =>
 some (.ret (.agg w2), h_11)
theorem pattern_reader_literalPart_ok {call : CallF} (hc : SaysAll Pg call) {n : Nat} {t0 : AV} {h : AHeap} {rR : ARes} {hR : AHeap} (z : pattern_reader_literalPart call n t0 h = some (rR, hR)) : Says Pg 63 [t0] h rR hR := by
 unfold pattern_reader_literalPart at z
 refine sO Try.func63 fun w0 m0 => ?_
 refine wW [(0, t0)] ?_
 refine oG fun n1 => W.r ?_
 refine oN 2 z fun h_2 z => ?_
 refine oV [(0, t0), (2, newP h)] (n1 ?_)
 refine oJ fun n4 p4 => W.r ?_
 refine oA 3 t0 ?_
 refine oCK hc (some 4) z (fun q => p4 (Pf q)) fun r4 h_5 z => ?_
 replace z := oS z; obtain ⟨t4, c7, z⟩ := z
 have c7 := avInt_some c7
 subst c7
 refine oCa hc 5 z fun t5 h_8 z => ?_
 refine oW 41 (.agg t5) z fun h_11 z => ?_
 refine oV [(2, newP h)] (n4 (oY ?_))
 obtain ⟨w2, e13, z⟩ := oS z
 exact lZ z [.cell 2 41] [.agg w2] (rY e13 res_nil)
noncomputable def pattern_reader_globPart (call : CallF) (_ : Nat) (t0 : AV) (h : AHeap) : R :=
 lett (newH h 41 [.int .i64 0, .int .u64 0, .int .u64 0, .int .u64 0, .int .u64 0, .nsl]) fun h_2 =>
 callK (call 71 [t0] h_2) fun r5 h_5 =>
 obind (avInt .u8 r5) fun t5 =>
 lett ((t5 : Int) == 42) fun (t10 : Bool) =>
 ifB t10
 (
  callN (call 77 [] h_5) fun r11 h_13 =>
  obind (avAgg r11) fun t11 =>
  outK (bldSl Pg h_13 39 1 [(0, .agg t11)]) fun v12 h_16 =>
  callN (call 76 [.int .i64 5, v12] h_16) fun r13 h_18 =>
  obind (avAgg r13) fun t13 =>
  obind (stRow h_18 6 t13 (newP h)) fun h_21 =>
  obind (ldRow h_21 6 (newP h)) fun w2 =>
  some (.ret (.agg w2), h_21))
 (
  lett ((t5 : Int) == 63) fun (t15 : Bool) =>
  ifB t15
  (
   callN (call 77 [] h_5) fun r16 h_27 =>
   obind (avAgg r16) fun t16 =>
   obind (stRow h_27 6 t16 (newP h)) fun h_30 =>
   obind (ldRow h_30 6 (newP h)) fun w2_33 =>
   some (.ret (.agg w2_33), h_30))
  (
   lett ((t5 : Int) == 92) fun (t18 : Bool) =>
   ifB t18
   (
    callK (call 71 [t0] h_5) fun r20 h_37 =>
    obind (avInt .u8 r20) fun t20 =>
    callN (call 78 [.int .u8 t20] h_37) fun r21 h_40 =>
    obind (avAgg r21) fun t21 =>
    obind (stRow h_40 6 t21 (newP h)) fun h_43 =>
    obind (ldRow h_43 6 (newP h)) fun w2_46 =>
    some (.ret (.agg w2_46), h_43))
   (
    callN (call 78 [.int .u8 t5] h_5) fun r8 h_49 =>
    obind (avAgg r8) fun t8 =>
    obind (stRow h_49 6 t8 (newP h)) fun h_52 =>
    obind (ldRow h_52 6 (newP h)) fun w2_55 =>
    some (.ret (.agg w2_55), h_52))))
theorem pattern_reader_globPart_ok {call : CallF} (hc : SaysAll Pg call) {n : Nat} {t0 : AV} {h : AHeap} {rR : ARes} {hR : AHeap} (z : pattern_reader_globPart call n t0 h = some (rR, hR)) : Says Pg 60 [t0] h rR hR := by
 unfold pattern_reader_globPart at z
 refine sO Try.func60 fun w0 m0 => ?_
 refine wW [(0, t0)] ?_
 refine oG fun n1 => W.r ?_
 refine oN 2 z fun h_2 z => ?_
 refine oV [(0, t0), (2, newP h)] (n1 ?_)
 refine oJ fun n4 p4 => W.r ?_
 refine oA 4 t0 ?_
 refine oCK hc (some 5) z (fun q => p4 (Pf q)) fun r5 h_5 z => ?_
 replace z := oS z; obtain ⟨t5, c7, z⟩ := z
 have c7 := avInt_some c7
 subst c7
 refine oA 3 (.int .u8 t5) ?_
 refine oV [(0, t0), (2, newP h), (3, .int .u8 t5)] (n4 ?_)
 refine oG fun n8 => W.r ?_
 refine oA 6 (.int .u8 t5) ?_
 refine oV [(0, t0), (2, newP h), (3, .int .u8 t5), (6, .int .u8 t5)] (n8 ?_)
 refine W.blockK (by kernel_rfl) (fun K9 n9 s9 o9 q9 p9 => ?_)
 refine oG fun n10 => W.r ?_
 refine oB 10 z fun t10 z => ?_
 refine oA 9 (.bool t10) ?_
 refine oV [(0, t0), (2, newP h), (3, .int .u8 t5), (6, .int .u8 t5), (9, .bool t10)] (n10 ?_)
 cases t10 with
 | true =>
  refine oT z fun z => ?_
  refine oG fun n12 => W.r ?_
  refine oCa hc 11 z fun t11 h_13 z => ?_
  refine oK 12 z fun v12 h_16 z => ?_
  refine oCa hc 13 z fun t13 h_18 z => ?_
  refine oW 41 (.agg t13) z fun h_21 z => ?_
  refine oV [(2, newP h)] (n12 (oY (q9 ?_)))
  obtain ⟨w2, e23, z⟩ := oS z
  exact lZ z [.cell 2 41] [.agg w2] (rY e23 res_nil)
 | false =>
  refine oU z fun z => ?_
  refine oG fun n24 => W.r ?_
  refine oB 15 z fun t15 z => ?_
  refine oA 14 (.bool t15) ?_
  refine oV [(0, t0), (2, newP h), (3, .int .u8 t5), (6, .int .u8 t5), (14, .bool t15)] (n24 ?_)
  cases t15 with
  | true =>
   refine oT z fun z => ?_
   refine oG fun n26 => W.r ?_
   refine oCa hc 16 z fun t16 h_27 z => ?_
   refine oW 41 (.agg t16) z fun h_30 z => ?_
   refine oV [(2, newP h)] (n26 (oY (q9 ?_)))
   obtain ⟨w2_33, e32, z⟩ := oS z
   exact lZ z [.cell 2 41] [.agg w2_33] (rY e32 res_nil)
  | false =>
   refine oU z fun z => ?_
   refine oG fun n34 => W.r ?_
   refine oB 18 z fun t18 z => ?_
   refine oA 17 (.bool t18) ?_
   refine oV [(0, t0), (2, newP h), (3, .int .u8 t5), (17, .bool t18)] (n34 ?_)
   cases t18 with
   | true =>
    refine oT z fun z => ?_
    refine oJ fun n36 p36 => W.r ?_
    refine oA 19 t0 ?_
    refine oCK hc (some 20) z (fun q => p36 (p9 (Pf q))) fun r20 h_37 z => ?_
    replace z := oS z; obtain ⟨t20, c39, z⟩ := z
    have c39 := avInt_some c39
    subst c39
    refine oCa hc 21 z fun t21 h_40 z => ?_
    refine oW 41 (.agg t21) z fun h_43 z => ?_
    refine oV [(2, newP h)] (n36 (oY (q9 ?_)))
    obtain ⟨w2_46, e45, z⟩ := oS z
    exact lZ z [.cell 2 41] [.agg w2_46] (rY e45 res_nil)
   | false =>
    refine oU z fun z => ?_
    refine oG fun n48 => W.r ?_
    refine oA 7 (.int .u8 t5) ?_
    refine oCa hc 8 z fun t8 h_49 z => ?_
    refine oW 41 (.agg t8) z fun h_52 z => ?_
    refine oV [(2, newP h)] (n48 (oY (q9 ?_)))
    obtain ⟨w2_55, e54, z⟩ := oS z
    exact lZ z [.cell 2 41] [.agg w2_55] (rY e54 res_nil)
noncomputable def pattern_reader_alternatives_L0b (call : CallF) (t0 : AV) (k12 : AV → AHeap → R) (self : AV → AHeap → R) (t3_33 : AV) (h_34 : AHeap) : R :=
 callN (call 55 [t0, .int .u8 124] h_34) fun r8 h_37 =>
 obind (avBool r8) fun t8 =>
 ifB t8
 (
  callK (call 79 [t0] h_37) fun r11 h_41 =>
  obind (avAgg r11) fun t11 =>
  outK (bldSl Pg h_41 39 1 [(0, .agg t11)]) fun v12 h_44 =>
  outK (opAppend Pg h_44 39 39 t3_33 v12) fun v13 h_46 =>
  self v13 h_46)
 (
  k12 t3_33 h_37)
noncomputable def pattern_reader_alternatives_L0 (call : CallF) (t0 : AV) (k12 : AV → AHeap → R) : Nat → AV → AHeap → R := iterR (fun _ _ => none) (pattern_reader_alternatives_L0b call t0 k12)
theorem pattern_reader_alternatives_L0_s (call : CallF) (t0 : AV) (k12 : AV → AHeap → R) (m : Nat) : pattern_reader_alternatives_L0 call t0 k12 (m + 1) = pattern_reader_alternatives_L0b call t0 k12 (pattern_reader_alternatives_L0 call t0 k12 m) := rfl
noncomputable def pattern_reader_alternatives (call : CallF) (n : Nat) (t0 : AV) (h : AHeap) : R :=
 lett (newH h 41 [.int .i64 0, .int .u64 0, .int .u64 0, .int .u64 0, .int .u64 0, .nsl]) fun h_2 =>
 callK (call 79 [t0] h_2) fun r5 h_5 =>
 obind (avAgg r5) fun t5 =>
 outK (bldSl Pg h_5 39 1 [(0, .agg t5)]) fun v6 h_8 =>
 lett (fun (t3 : AV) (h_13 : AHeap) =>
  obind (lenL t3) fun t15 =>
  lett ((t15 : Int) == 1) fun (t16 : Bool) =>
  ifB t16
  (
   obind (idxP 6 t3 0) fun t18 =>
   obind (ldRow h_13 6 t18) fun t19 =>
   obind (stRow h_13 6 t19 (newP h)) fun h_21 =>
   obind (ldRow h_21 6 (newP h)) fun w2 =>
   some (.ret (.agg w2), h_21))
  (
   callN (call 76 [.int .i64 4, t3] h_13) fun r21 h_25 =>
   obind (avAgg r21) fun t21 =>
   obind (stRow h_25 6 t21 (newP h)) fun h_28 =>
   obind (ldRow h_28 6 (newP h)) fun w2_31 =>
   some (.ret (.agg w2_31), h_28))) fun k12 =>
 pattern_reader_alternatives_L0 call t0 k12 n v6 h_8
theorem pattern_reader_alternatives_ok {call : CallF} (hc : SaysAll Pg call) {n : Nat} {t0 : AV} {h : AHeap} {rR : ARes} {hR : AHeap} (z : pattern_reader_alternatives call n t0 h = some (rR, hR)) : Says Pg 61 [t0] h rR hR := by
 unfold pattern_reader_alternatives at z
 refine sO Try.func61 fun w0 m0 => ?_
 refine wW [(0, t0)] ?_
 refine oG fun n1 => W.r ?_
 refine oN 2 z fun h_2 z => ?_
 refine oV [(0, t0), (2, newP h)] (n1 ?_)
 refine oJ fun n4 p4 => W.r ?_
 refine oA 4 t0 ?_
 refine oCK hc (some 5) z (fun q => p4 (Pf q)) fun r5 h_5 z => ?_
 replace z := oS z; obtain ⟨t5, c7, z⟩ := z
 have c7 := avAgg_some c7
 subst c7
 refine oK 6 z fun v6 h_8 z => ?_
 refine oA 3 v6 ?_
 refine oV [(0, t0), (2, newP h), (3, v6)] (n4 ?_)
 refine W.s (fun K10 n10 _ _ p10 => ?_)
 obtain ⟨k12, e12, z⟩ := lS z
 have J12 : ∀ (t3 : AV) (h_13 : AHeap), k12 t3 h_13 = some (rR, hR) → Go w0 m0 (Func.ntmps Try.f61) (K10 .normal) [(2, newP h), (3, t3)] [] h_13 := by
  intro t3 h_13 z
  rw [e12] at z
  refine n10 ?_
  refine oH fun n14 q14 => ?_
  refine oG fun n15 => W.r ?_
  refine oA 14 t3 ?_
  refine oM 15 39 41 z fun t15 z => ?_
  refine oB 16 z fun t16 z => ?_
  refine oV [(2, newP h), (3, t3), (16, .bool t16)] (n15 ?_)
  cases t16 with
  | true =>
   refine oT z fun z => ?_
   refine oG fun n18 => W.r ?_
   refine oA 17 t3 ?_
   refine oP 18 39 41 .i64 z fun t18 z => ?_
   refine oR 19 41 z fun t19 z => ?_
   refine oW 41 (.agg t19) z fun h_21 z => ?_
   refine oV [(2, newP h)] (n18 (oY (q14 ?_)))
   obtain ⟨w2, e23, z⟩ := oS z
   exact lZ z [.cell 2 41] [.agg w2] (rY e23 res_nil)
  | false =>
   refine oU z fun z => ?_
   refine oZ (n14 ?_)
   refine oG fun n24 => W.r ?_
   refine oA 20 t3 ?_
   refine oCa hc 21 z fun t21 h_25 z => ?_
   refine oW 41 (.agg t21) z fun h_28 z => ?_
   refine oV [(2, newP h)] (n24 (oY ?_))
   obtain ⟨w2_31, e30, z⟩ := oS z
   exact lZ z [.cell 2 41] [.agg w2_31] (rY e30 res_nil)
 refine W.blockK (by kernel_rfl) (fun K11 n11 s11 o11 q11 p11 => ?_)
 refine W.loopK (by kernel_rfl) (fun I32 K32 b32 n32 e32 q32 p32 => ?_)
 have L32 : ∀ (m : Nat) (t3_33 : AV) (h_34 : AHeap), pattern_reader_alternatives_L0 call t0 k12 m t3_33 h_34 = some (rR, hR) → Go w0 m0 (Func.ntmps Try.f61) I32 [(0, t0), (2, newP h), (3, t3_33)] [] h_34 := by
  intro m
  induction m with
  | zero => intro t3_33 h_34 z; cases z
  | succ m ih32 =>
   intro t3_33 h_34 z
   rw [pattern_reader_alternatives_L0_s] at z; unfold pattern_reader_alternatives_L0b at z
   refine b32 ?_
   refine W.s (fun _ n35 e35 _ _ => ?_)
   refine oG fun n36 => W.r ?_
   refine oA 7 t0 ?_
   refine oCb hc 8 z fun t8 h_37 z => ?_
   refine oV [(0, t0), (2, newP h), (3, t3_33), (8, .bool t8)] (n36 ?_)
   cases t8 with
   | true =>
    refine oT z fun z => ?_
    refine oZ (n35 ?_)
    refine W.blockK (by kernel_rfl) (fun K40 n40 s40 o40 q40 p40 => ?_)
    refine W.r ?_
    refine oA 9 t3_33 ?_
    refine oA 10 t0 ?_
    refine oCK hc (some 11) z (fun q => p40 (p32 (p11 (p10 (Pf q))))) fun r11 h_41 z => ?_
    replace z := oS z; obtain ⟨t11, c43, z⟩ := z
    have c43 := avAgg_some c43
    subst c43
    refine oK 12 z fun v12 h_44 z => ?_
    refine oK 13 z fun v13 h_46 z => ?_
    refine oA 3 v13 ?_
    refine oV [(0, t0), (2, newP h), (3, v13)] (n40 (n32 ?_))
    exact gW _ (ih32 _ _ z)
   | false =>
    refine oU z fun z => ?_
    refine W.exit (by kernel_rfl) ?_
    refine e35 (e32 ?_)
    refine s11 (by kernel_rfl) ?_
    exact gW _ (J12 _ _ z)
 exact gW _ (L32 _ _ _ z)
noncomputable def pattern_reader_regularRow_L0b (call : CallF) (t0 : AV) (k7 : AV → AHeap → R) (self : AV → AHeap → R) (t3_17 : AV) (h_18 : AHeap) : R :=
 callN (call 74 [t0] h_18) fun r5 h_21 =>
 obind (avBool r5) fun t5 =>
 lett (!t5) fun (t6 : Bool) =>
 lett (fun (t11 : Bool) (h_25 : AHeap) =>
  lett (fun (t16 : Bool) (h_28 : AHeap) =>
   ifB t16
   (
    callK (call 85 [t0] h_28) fun r19 h_32 =>
    obind (avAgg r19) fun t19 =>
    outK (bldSl Pg h_32 39 1 [(0, .agg t19)]) fun v20 h_35 =>
    outK (opAppend Pg h_35 39 39 t3_17 v20) fun v21 h_37 =>
    self v21 h_37)
   (
    k7 t3_17 h_28)) fun j16 =>
  ifB t11
  (
   callN (call 68 [t0, .int .u8 41] h_25) fun r14 h_40 =>
   obind (avBool r14) fun t14 =>
   lett (!t14) fun (t15 : Bool) =>
   j16 t15 h_40)
  (
   j16 false h_25)) fun j11 =>
 ifB t6
 (
  callN (call 68 [t0, .int .u8 124] h_21) fun r9 h_44 =>
  obind (avBool r9) fun t9 =>
  lett (!t9) fun (t10 : Bool) =>
  j11 t10 h_44)
 (
  j11 false h_21)
noncomputable def pattern_reader_regularRow_L0 (call : CallF) (t0 : AV) (k7 : AV → AHeap → R) : Nat → AV → AHeap → R := iterR (fun _ _ => none) (pattern_reader_regularRow_L0b call t0 k7)
theorem pattern_reader_regularRow_L0_s (call : CallF) (t0 : AV) (k7 : AV → AHeap → R) (m : Nat) : pattern_reader_regularRow_L0 call t0 k7 (m + 1) = pattern_reader_regularRow_L0b call t0 k7 (pattern_reader_regularRow_L0 call t0 k7 m) := rfl
noncomputable def pattern_reader_regularRow (call : CallF) (n : Nat) (t0 : AV) (h : AHeap) : R :=
 lett (newH h 41 [.int .i64 0, .int .u64 0, .int .u64 0, .int .u64 0, .int .u64 0, .nsl]) fun h_2 =>
 lett (fun (t3 : AV) (h_8 : AHeap) =>
  callN (call 75 [t3] h_8) fun r23 h_10 =>
  obind (avAgg r23) fun t23 =>
  obind (stRow h_10 6 t23 (newP h)) fun h_13 =>
  obind (ldRow h_13 6 (newP h)) fun w2 =>
  some (.ret (.agg w2), h_13)) fun k7 =>
 pattern_reader_regularRow_L0 call t0 k7 n AV.nsl h_2
theorem pattern_reader_regularRow_ok {call : CallF} (hc : SaysAll Pg call) {n : Nat} {t0 : AV} {h : AHeap} {rR : ARes} {hR : AHeap} (z : pattern_reader_regularRow call n t0 h = some (rR, hR)) : Says Pg 79 [t0] h rR hR := by
 unfold pattern_reader_regularRow at z
 refine sO Try.func79 fun w0 m0 => ?_
 refine wW [(0, t0)] ?_
 refine oG fun n1 => W.r ?_
 refine oN 2 z fun h_2 z => ?_
 refine oV [(0, t0), (2, newP h)] (n1 ?_)
 refine oG fun n4 => W.r ?_
 refine oA 3 AV.nsl ?_
 refine oV [(0, t0), (2, newP h), (3, AV.nsl)] (n4 ?_)
 refine W.s (fun K5 n5 _ _ p5 => ?_)
 obtain ⟨k7, e7, z⟩ := lS z
 have J7 : ∀ (t3 : AV) (h_8 : AHeap), k7 t3 h_8 = some (rR, hR) → Go w0 m0 (Func.ntmps Try.f79) (K5 .normal) [(2, newP h), (3, t3)] [] h_8 := by
  intro t3 h_8 z
  rw [e7] at z
  refine n5 ?_
  refine oG fun n9 => W.r ?_
  refine oA 22 t3 ?_
  refine oCa hc 23 z fun t23 h_10 z => ?_
  refine oW 41 (.agg t23) z fun h_13 z => ?_
  refine oV [(2, newP h)] (n9 (oY ?_))
  obtain ⟨w2, e15, z⟩ := oS z
  exact lZ z [.cell 2 41] [.agg w2] (rY e15 res_nil)
 refine W.blockK (by kernel_rfl) (fun K6 n6 s6 o6 q6 p6 => ?_)
 refine W.loopK (by kernel_rfl) (fun I16 K16 b16 n16 e16 q16 p16 => ?_)
 have L16 : ∀ (m : Nat) (t3_17 : AV) (h_18 : AHeap), pattern_reader_regularRow_L0 call t0 k7 m t3_17 h_18 = some (rR, hR) → Go w0 m0 (Func.ntmps Try.f79) I16 [(0, t0), (2, newP h), (3, t3_17)] [] h_18 := by
  intro m
  induction m with
  | zero => intro t3_17 h_18 z; cases z
  | succ m ih16 =>
   intro t3_17 h_18 z
   rw [pattern_reader_regularRow_L0_s] at z; unfold pattern_reader_regularRow_L0b at z
   refine b16 ?_
   refine W.s (fun _ n19 e19 _ _ => ?_)
   refine W.s (fun K20 n20 _ _ _ => ?_)
   refine W.r ?_
   refine oA 4 t0 ?_
   refine oCb hc 5 z fun t5 h_21 z => ?_
   refine oB 6 z fun t6 z => ?_
   refine oA 7 (.bool t6) ?_
   obtain ⟨j11, e26, z⟩ := lS z
   have J27 : ∀ (t11 : Bool) (h_25 : AHeap), j11 t11 h_25 = some (rR, hR) → WL Pg w0 m0 (Func.ntmps Try.f79) (Code.ops (Code.p1 (Code.p1 (Code.p1 (Code.p1 (Code.p1 (Code.p2 (Code.p2 (codeOf Try.f79))))))))) 8 K20 [(0, t0), (2, newP h), (3, t3_17), (11, .bool t11)] [] h_25 := by
    intro t11 h_25 z
    rw [e26] at z
    refine oA 12 (.bool t11) ?_
    obtain ⟨j16, e29, z⟩ := lS z
    have J30 : ∀ (t16 : Bool) (h_28 : AHeap), j16 t16 h_28 = some (rR, hR) → WL Pg w0 m0 (Func.ntmps Try.f79) (Code.ops (Code.p1 (Code.p1 (Code.p1 (Code.p1 (Code.p1 (Code.p2 (Code.p2 (codeOf Try.f79))))))))) 13 K20 [(0, t0), (2, newP h), (3, t3_17), (16, .bool t16)] [] h_28 := by
     intro t16 h_28 z
     rw [e29] at z
     refine oV [(0, t0), (2, newP h), (3, t3_17), (16, .bool t16)] (n20 ?_)
     cases t16 with
     | true =>
      refine oT z fun z => ?_
      refine oZ (n19 ?_)
      refine W.blockK (by kernel_rfl) (fun K31 n31 s31 o31 q31 p31 => ?_)
      refine W.r ?_
      refine oA 17 t3_17 ?_
      refine oA 18 t0 ?_
      refine oCK hc (some 19) z (fun q => p31 (p16 (p6 (p5 (Pf q))))) fun r19 h_32 z => ?_
      replace z := oS z; obtain ⟨t19, c34, z⟩ := z
      have c34 := avAgg_some c34
      subst c34
      refine oK 20 z fun v20 h_35 z => ?_
      refine oK 21 z fun v21 h_37 z => ?_
      refine oA 3 v21 ?_
      refine oV [(0, t0), (2, newP h), (3, v21)] (n31 (n16 ?_))
      exact gW _ (ih16 _ _ z)
     | false =>
      refine oU z fun z => ?_
      refine W.exit (by kernel_rfl) ?_
      refine e19 (e16 ?_)
      refine s6 (by kernel_rfl) ?_
      exact gW _ (J7 _ _ z)
    cases t11 with
    | true =>
     replace z := ifB_t z
     refine oA 13 t0 ?_
     refine oCb hc 14 z fun t14 h_40 z => ?_
     refine oB 15 z fun t15 z => ?_
     refine oA 16 (.bool t15) ?_
     exact lW _ (J30 _ _ z)
    | false =>
     replace z := ifB_f z
     refine WL.o (some 13) ?_
     refine WL.o (some 14) ?_
     refine WL.o (some 15) ?_
     refine oA 16 (.bool false) ?_
     exact lW _ (J30 _ _ z)
   cases t6 with
   | true =>
    replace z := ifB_t z
    refine oA 8 t0 ?_
    refine oCb hc 9 z fun t9 h_44 z => ?_
    refine oB 10 z fun t10 z => ?_
    refine oA 11 (.bool t10) ?_
    exact lW _ (J27 _ _ z)
   | false =>
    replace z := ifB_f z
    refine WL.o (some 8) ?_
    refine WL.o (some 9) ?_
    refine WL.o (some 10) ?_
    refine oA 11 (.bool false) ?_
    exact lW _ (J27 _ _ z)
 exact gW _ (L16 _ _ _ z)
noncomputable def pattern_reader_regularPart (call : CallF) (_ : Nat) (t0 : AV) (h : AHeap) : R :=
 lett (newH h 41 [.int .i64 0, .int .u64 0, .int .u64 0, .int .u64 0, .int .u64 0, .nsl]) fun h_2 =>
 callK (call 88 [t0] h_2) fun r5 h_5 =>
 obind (avAgg r5) fun t5 =>
 lett (newH h_5 41 [.int .i64 0, .int .u64 0, .int .u64 0, .int .u64 0, .int .u64 0, .nsl]) fun h_8 =>
 obind (stRow h_8 6 t5 (newP h_5)) fun h_10 =>
 callN (call 55 [t0, .int .u8 42] h_10) fun r8 h_15 =>
 obind (avBool r8) fun t8 =>
 ifB t8
 (
  obind (ldRow h_15 6 (newP h_5)) fun t9 =>
  outK (bldSl Pg h_15 39 1 [(0, .agg t9)]) fun v10 h_20 =>
  callN (call 76 [.int .i64 5, v10] h_20) fun r11 h_22 =>
  obind (avAgg r11) fun t11 =>
  obind (stRow h_22 6 t11 (newP h)) fun h_25 =>
  obind (ldRow h_25 6 (newP h)) fun w2 =>
  some (.ret (.agg w2), h_25))
 (
  callN (call 55 [t0, .int .u8 43] h_15) fun r14 h_29 =>
  obind (avBool r14) fun t14 =>
  ifB t14
  (
   obind (ldRow h_29 6 (newP h_5)) fun t15 =>
   outK (bldSl Pg h_29 39 1 [(0, .agg t15)]) fun v16 h_34 =>
   callN (call 76 [.int .i64 6, v16] h_34) fun r17 h_36 =>
   obind (avAgg r17) fun t17 =>
   obind (stRow h_36 6 t17 (newP h)) fun h_39 =>
   obind (ldRow h_39 6 (newP h)) fun w2_42 =>
   some (.ret (.agg w2_42), h_39))
  (
   callN (call 55 [t0, .int .u8 63] h_29) fun r20 h_44 =>
   obind (avBool r20) fun t20 =>
   ifB t20
   (
    obind (ldRow h_44 6 (newP h_5)) fun t21 =>
    outK (bldSl Pg h_44 39 1 [(0, .agg t21)]) fun v22 h_49 =>
    callN (call 76 [.int .i64 7, v22] h_49) fun r23 h_51 =>
    obind (avAgg r23) fun t23 =>
    obind (stRow h_51 6 t23 (newP h)) fun h_54 =>
    obind (ldRow h_54 6 (newP h)) fun w2_57 =>
    some (.ret (.agg w2_57), h_54))
   (
    obind (ldRow h_44 6 (newP h_5)) fun t24 =>
    obind (stRow h_44 6 t24 (newP h)) fun h_60 =>
    obind (ldRow h_60 6 (newP h)) fun w2_63 =>
    some (.ret (.agg w2_63), h_60))))
theorem pattern_reader_regularPart_ok {call : CallF} (hc : SaysAll Pg call) {n : Nat} {t0 : AV} {h : AHeap} {rR : ARes} {hR : AHeap} (z : pattern_reader_regularPart call n t0 h = some (rR, hR)) : Says Pg 85 [t0] h rR hR := by
 unfold pattern_reader_regularPart at z
 refine sO Try.func85 fun w0 m0 => ?_
 refine wW [(0, t0)] ?_
 refine oG fun n1 => W.r ?_
 refine oN 2 z fun h_2 z => ?_
 refine oV [(0, t0), (2, newP h)] (n1 ?_)
 refine oJ fun n4 p4 => W.r ?_
 refine oA 4 t0 ?_
 refine oCK hc (some 5) z (fun q => p4 (Pf q)) fun r5 h_5 z => ?_
 replace z := oS z; obtain ⟨t5, c7, z⟩ := z
 have c7 := avAgg_some c7
 subst c7
 refine oN 3 z fun h_8 z => ?_
 refine oW 41 (.agg t5) z fun h_10 z => ?_
 refine oV [(0, t0), (2, newP h), (3, newP h_5)] (n4 ?_)
 refine oH fun n12 q12 => ?_
 refine W.blockK (by kernel_rfl) (fun K13 n13 s13 o13 q13 p13 => ?_)
 refine oG fun n14 => W.r ?_
 refine oA 7 t0 ?_
 refine oCb hc 8 z fun t8 h_15 z => ?_
 refine oA 6 (.bool t8) ?_
 refine oV [(0, t0), (2, newP h), (3, newP h_5), (6, .bool t8)] (n14 ?_)
 cases t8 with
 | true =>
  refine oT z fun z => ?_
  refine oG fun n18 => W.r ?_
  refine oR 9 41 z fun t9 z => ?_
  refine oK 10 z fun v10 h_20 z => ?_
  refine oCa hc 11 z fun t11 h_22 z => ?_
  refine oW 41 (.agg t11) z fun h_25 z => ?_
  refine oV [(2, newP h)] (n18 (oY (q13 (q12 ?_))))
  obtain ⟨w2, e27, z⟩ := oS z
  exact lZ z [.cell 2 41] [.agg w2] (rY e27 res_nil)
 | false =>
  refine oU z fun z => ?_
  refine oG fun n28 => W.r ?_
  refine oA 13 t0 ?_
  refine oCb hc 14 z fun t14 h_29 z => ?_
  refine oA 12 (.bool t14) ?_
  refine oV [(0, t0), (2, newP h), (3, newP h_5), (12, .bool t14)] (n28 ?_)
  cases t14 with
  | true =>
   refine oT z fun z => ?_
   refine oG fun n32 => W.r ?_
   refine oR 15 41 z fun t15 z => ?_
   refine oK 16 z fun v16 h_34 z => ?_
   refine oCa hc 17 z fun t17 h_36 z => ?_
   refine oW 41 (.agg t17) z fun h_39 z => ?_
   refine oV [(2, newP h)] (n32 (oY (q13 (q12 ?_))))
   obtain ⟨w2_42, e41, z⟩ := oS z
   exact lZ z [.cell 2 41] [.agg w2_42] (rY e41 res_nil)
  | false =>
   refine oU z fun z => ?_
   refine oG fun n43 => W.r ?_
   refine oA 19 t0 ?_
   refine oCb hc 20 z fun t20 h_44 z => ?_
   refine oA 18 (.bool t20) ?_
   refine oV [(2, newP h), (3, newP h_5), (18, .bool t20)] (n43 ?_)
   cases t20 with
   | true =>
    refine oT z fun z => ?_
    refine oG fun n47 => W.r ?_
    refine oR 21 41 z fun t21 z => ?_
    refine oK 22 z fun v22 h_49 z => ?_
    refine oCa hc 23 z fun t23 h_51 z => ?_
    refine oW 41 (.agg t23) z fun h_54 z => ?_
    refine oV [(2, newP h)] (n47 (oY (q13 (q12 ?_))))
    obtain ⟨w2_57, e56, z⟩ := oS z
    exact lZ z [.cell 2 41] [.agg w2_57] (rY e56 res_nil)
   | false =>
    refine oU z fun z => ?_
    refine oZ (n13 (n12 ?_))
    refine oG fun n58 => W.r ?_
    refine oR 24 41 z fun t24 z => ?_
    refine oW 41 (.agg t24) z fun h_60 z => ?_
    refine oV [(2, newP h)] (n58 (oY ?_))
    obtain ⟨w2_63, e62, z⟩ := oS z
    exact lZ z [.cell 2 41] [.agg w2_63] (rY e62 res_nil)
noncomputable def pattern_reader_atom (call : CallF) (_ : Nat) (t0 : AV) (h : AHeap) : R :=
 lett (newH h 41 [.int .i64 0, .int .u64 0, .int .u64 0, .int .u64 0, .int .u64 0, .nsl]) fun h_2 =>
 callK (call 71 [t0] h_2) fun r6 h_5 =>
 obind (avInt .u8 r6) fun t6 =>
 lett ((t6 : Int) == 40) fun (t9 : Bool) =>
 ifB t9
 (
  callK (call 61 [t0] h_5) fun r11 h_14 =>
  obind (avAgg r11) fun t11 =>
  lett (newH h_14 41 [.int .i64 0, .int .u64 0, .int .u64 0, .int .u64 0, .int .u64 0, .nsl]) fun h_17 =>
  obind (stRow h_17 6 t11 (newP h_14)) fun h_19 =>
  callK (call 54 [t0, .int .u8 41] h_19) fun _ h_22 =>
  obind (ldRow h_22 6 (newP h_14)) fun t14 =>
  obind (stRow h_22 6 t14 (newP h)) fun h_26 =>
  obind (ldRow h_26 6 (newP h)) fun w2 =>
  some (.ret (.agg w2), h_26))
 (
  lett ((t6 : Int) == 46) fun (t16 : Bool) =>
  ifB t16
  (
   callN (call 77 [] h_5) fun r17 h_34 =>
   obind (avAgg r17) fun t17 =>
   obind (stRow h_34 6 t17 (newP h)) fun h_37 =>
   obind (ldRow h_37 6 (newP h)) fun w2_40 =>
   some (.ret (.agg w2_40), h_37))
  (
   lett ((t6 : Int) == 91) fun (t19 : Bool) =>
   ifB t19
   (
    callK (call 91 [t0] h_5) fun r21 h_44 =>
    obind (avAgg r21) fun t21 =>
    obind (bldS Pg 41 [(0, .int .i64 2), (1, .agg t21)]) fun t22 =>
    obind (stRow h_44 6 t22 (newP h)) fun h_48 =>
    obind (ldRow h_48 6 (newP h)) fun w2_51 =>
    some (.ret (.agg w2_51), h_48))
   (
    lett ((t6 : Int) == 92) fun (t24 : Bool) =>
    ifB t24
    (
     callK (call 71 [t0] h_5) fun r26 h_56 =>
     obind (avInt .u8 r26) fun t26 =>
     callN (call 78 [.int .u8 t26] h_56) fun r27 h_59 =>
     obind (avAgg r27) fun t27 =>
     obind (stRow h_59 6 t27 (newP h)) fun h_62 =>
     obind (ldRow h_62 6 (newP h)) fun w2_65 =>
     some (.ret (.agg w2_65), h_62))
    (
     lett ((t6 : Int) == 124) fun (t29 : Bool) =>
     lett (fun (t28 : Bool) (h_71 : AHeap) =>
      lett (fun  (h_73 : AHeap) =>
       callN (call 78 [.int .u8 t6] h_73) fun r38 h_75 =>
       obind (avAgg r38) fun t38 =>
       obind (stRow h_75 6 t38 (newP h)) fun h_78 =>
       obind (ldRow h_78 6 (newP h)) fun w2_81 =>
       some (.ret (.agg w2_81), h_78)) fun k72 =>
      ifB t28
      (
       callK (call 72 [t0] h_71) fun _ h_82 =>
       k72 h_82)
      (
       k72 h_71)) fun k70 =>
     ifB t29
     (
      k70 true h_5)
     (
      lett ((t6 : Int) == 41) fun (t30 : Bool) =>
      lett (fun (t28_88 : Bool) (h_89 : AHeap) =>
       k70 t28_88 h_89) fun k87 =>
      ifB t30
      (
       k87 true h_5)
      (
       lett ((t6 : Int) == 42) fun (t31 : Bool) =>
       lett (fun (t28_93 : Bool) (h_94 : AHeap) =>
        k87 t28_93 h_94) fun k92 =>
       ifB t31
       (
        k92 true h_5)
       (
        lett ((t6 : Int) == 43) fun (t32 : Bool) =>
        lett (fun (t28_98 : Bool) (h_99 : AHeap) =>
         k92 t28_98 h_99) fun k97 =>
        ifB t32
        (
         k97 true h_5)
        (
         lett ((t6 : Int) == 63) fun (t33 : Bool) =>
         lett (fun (t28_103 : Bool) (h_104 : AHeap) =>
          k97 t28_103 h_104) fun k102 =>
         ifB t33
         (
          k102 true h_5)
         (
          lett ((t6 : Int) == 93) fun (t34 : Bool) =>
          k102 t34 h_5)))))))))
theorem pattern_reader_atom_ok {call : CallF} (hc : SaysAll Pg call) {n : Nat} {t0 : AV} {h : AHeap} {rR : ARes} {hR : AHeap} (z : pattern_reader_atom call n t0 h = some (rR, hR)) : Says Pg 88 [t0] h rR hR := by
 unfold pattern_reader_atom at z
 refine sO Try.func88 fun w0 m0 => ?_
 refine wW [(0, t0)] ?_
 refine oG fun n1 => W.r ?_
 refine oN 2 z fun h_2 z => ?_
 refine oV [(0, t0), (2, newP h)] (n1 ?_)
 refine oJ fun n4 p4 => W.r ?_
 refine oA 5 t0 ?_
 refine oCK hc (some 6) z (fun q => p4 (Pf q)) fun r6 h_5 z => ?_
 replace z := oS z; obtain ⟨t6, c7, z⟩ := z
 have c7 := avInt_some c7
 subst c7
 refine oA 3 (.int .u8 t6) ?_
 refine oV [(0, t0), (2, newP h), (3, .int .u8 t6)] (n4 ?_)
 refine W.s (fun _ n8 _ q8 p8 => ?_)
 refine oG fun n9 => W.r ?_
 refine oA 7 (.int .u8 t6) ?_
 refine oV [(0, t0), (2, newP h), (3, .int .u8 t6), (7, .int .u8 t6)] (n9 ?_)
 refine W.blockK (by kernel_rfl) (fun K10 n10 s10 o10 q10 p10 => ?_)
 refine oG fun n11 => W.r ?_
 refine oB 9 z fun t9 z => ?_
 refine oA 8 (.bool t9) ?_
 refine oV [(0, t0), (2, newP h), (3, .int .u8 t6), (7, .int .u8 t6), (8, .bool t9)] (n11 ?_)
 cases t9 with
 | true =>
  refine oT z fun z => ?_
  refine oJ fun n13 p13 => W.r ?_
  refine oA 10 t0 ?_
  refine oCK hc (some 11) z (fun q => p13 (p10 (p8 (Pf q)))) fun r11 h_14 z => ?_
  replace z := oS z; obtain ⟨t11, c16, z⟩ := z
  have c16 := avAgg_some c16
  subst c16
  refine oN 4 z fun h_17 z => ?_
  refine oW 41 (.agg t11) z fun h_19 z => ?_
  refine oV [(0, t0), (2, newP h), (4, newP h_14)] (n13 ?_)
  refine oJ fun n21 p21 => W.r ?_
  refine oA 12 t0 ?_
  refine oCK hc (some 13) z (fun q => p21 (p10 (p8 (Pf q)))) fun r13 h_22 z => ?_
  refine oV [(2, newP h), (4, newP h_14)] (n21 ?_)
  refine oG fun n24 => W.r ?_
  refine oR 14 41 z fun t14 z => ?_
  refine oW 41 (.agg t14) z fun h_26 z => ?_
  refine oV [(2, newP h)] (n24 (oY (q10 (q8 ?_))))
  obtain ⟨w2, e28, z⟩ := oS z
  exact lZ z [.cell 2 41] [.agg w2] (rY e28 res_nil)
 | false =>
  refine oU z fun z => ?_
  refine oG fun n31 => W.r ?_
  refine oB 16 z fun t16 z => ?_
  refine oA 15 (.bool t16) ?_
  refine oV [(0, t0), (2, newP h), (3, .int .u8 t6), (7, .int .u8 t6), (15, .bool t16)] (n31 ?_)
  cases t16 with
  | true =>
   refine oT z fun z => ?_
   refine oG fun n33 => W.r ?_
   refine oCa hc 17 z fun t17 h_34 z => ?_
   refine oW 41 (.agg t17) z fun h_37 z => ?_
   refine oV [(2, newP h)] (n33 (oY (q10 (q8 ?_))))
   obtain ⟨w2_40, e39, z⟩ := oS z
   exact lZ z [.cell 2 41] [.agg w2_40] (rY e39 res_nil)
  | false =>
   refine oU z fun z => ?_
   refine oG fun n41 => W.r ?_
   refine oB 19 z fun t19 z => ?_
   refine oA 18 (.bool t19) ?_
   refine oV [(0, t0), (2, newP h), (3, .int .u8 t6), (7, .int .u8 t6), (18, .bool t19)] (n41 ?_)
   cases t19 with
   | true =>
    refine oT z fun z => ?_
    refine oJ fun n43 p43 => W.r ?_
    refine oA 20 t0 ?_
    refine oCK hc (some 21) z (fun q => p43 (p10 (p8 (Pf q)))) fun r21 h_44 z => ?_
    replace z := oS z; obtain ⟨t21, c46, z⟩ := z
    have c46 := avAgg_some c46
    subst c46
    obtain ⟨t22, e47, z⟩ := oS z
    refine WL.val (d := (some 22)) (v := .agg t22) (h' := h_44) (by kernel_rfl) (by kernel_rfl) (bld_ok (by kernel_rfl) e47) ?_
    refine oW 41 (.agg t22) z fun h_48 z => ?_
    refine oV [(2, newP h)] (n43 (oY (q10 (q8 ?_))))
    obtain ⟨w2_51, e50, z⟩ := oS z
    exact lZ z [.cell 2 41] [.agg w2_51] (rY e50 res_nil)
   | false =>
    refine oU z fun z => ?_
    refine oG fun n53 => W.r ?_
    refine oB 24 z fun t24 z => ?_
    refine oA 23 (.bool t24) ?_
    refine oV [(0, t0), (2, newP h), (3, .int .u8 t6), (7, .int .u8 t6), (23, .bool t24)] (n53 ?_)
    cases t24 with
    | true =>
     refine oT z fun z => ?_
     refine oJ fun n55 p55 => W.r ?_
     refine oA 25 t0 ?_
     refine oCK hc (some 26) z (fun q => p55 (p10 (p8 (Pf q)))) fun r26 h_56 z => ?_
     replace z := oS z; obtain ⟨t26, c58, z⟩ := z
     have c58 := avInt_some c58
     subst c58
     refine oCa hc 27 z fun t27 h_59 z => ?_
     refine oW 41 (.agg t27) z fun h_62 z => ?_
     refine oV [(2, newP h)] (n55 (oY (q10 (q8 ?_))))
     obtain ⟨w2_65, e64, z⟩ := oS z
     exact lZ z [.cell 2 41] [.agg w2_65] (rY e64 res_nil)
    | false =>
     refine oU z fun z => ?_
     refine W.s (fun K67 n67 _ _ _ => ?_)
     refine oG fun n68 => W.r ?_
     refine oB 29 z fun t29 z => ?_
     refine oA 28 (.bool t29) ?_
     refine oV [(0, t0), (2, newP h), (3, .int .u8 t6), (7, .int .u8 t6), (28, .bool t29)] (n68 ?_)
     obtain ⟨k70, e70, z⟩ := lS z
     have J70 : ∀ (t28 : Bool) (h_71 : AHeap), k70 t28 h_71 = some (rR, hR) → Go w0 m0 (Func.ntmps Try.f88) (K67 .normal) [(0, t0), (2, newP h), (3, .int .u8 t6), (28, .bool t28)] [] h_71 := by
      intro t28 h_71 z
      rw [e70] at z
      refine n67 ?_
      obtain ⟨k72, e72, z⟩ := lS z
      have J72 : ∀  (h_73 : AHeap), k72 h_73 = some (rR, hR) → Go w0 m0 (Func.ntmps Try.f88) (K10 .normal) [(2, newP h), (3, .int .u8 t6)] [] h_73 := by
       intro  h_73 z
       rw [e72] at z
       refine n10 (n8 ?_)
       refine oG fun n74 => W.r ?_
       refine oA 37 (.int .u8 t6) ?_
       refine oCa hc 38 z fun t38 h_75 z => ?_
       refine oW 41 (.agg t38) z fun h_78 z => ?_
       refine oV [(2, newP h)] (n74 (oY ?_))
       obtain ⟨w2_81, e80, z⟩ := oS z
       exact lZ z [.cell 2 41] [.agg w2_81] (rY e80 res_nil)
      cases t28 with
      | true =>
       refine oT z fun z => ?_
       refine W.r ?_
       refine oA 35 t0 ?_
       refine oCK hc (some 36) z (fun q => p10 (p8 (Pf q))) fun r36 h_82 z => ?_
       refine oV [(2, newP h), (3, .int .u8 t6)] ?_
       exact gW _ (J72 _ z)
      | false =>
       refine oU z fun z => ?_
       refine oZ ?_
       exact gW _ (J72 _ z)
     cases t29 with
     | true =>
      refine oT z fun z => ?_
      refine oZ ?_
      exact gW _ (J70 _ _ z)
     | false =>
      refine oU z fun z => ?_
      refine oG fun n85 => W.r ?_
      refine oB 30 z fun t30 z => ?_
      refine oA 28 (.bool t30) ?_
      refine oV [(0, t0), (2, newP h), (3, .int .u8 t6), (7, .int .u8 t6), (28, .bool t30)] (n85 ?_)
      obtain ⟨k87, e87, z⟩ := lS z
      have J87 : ∀ (t28_88 : Bool) (h_89 : AHeap), k87 t28_88 h_89 = some (rR, hR) → Go w0 m0 (Func.ntmps Try.f88) (K67 .normal) [(0, t0), (2, newP h), (3, .int .u8 t6), (28, .bool t28_88)] [] h_89 := by
       intro t28_88 h_89 z
       rw [e87] at z
       exact gW _ (J70 _ _ z)
      cases t30 with
      | true =>
       refine oT z fun z => ?_
       refine oZ ?_
       exact gW _ (J87 _ _ z)
      | false =>
       refine oU z fun z => ?_
       refine oG fun n90 => W.r ?_
       refine oB 31 z fun t31 z => ?_
       refine oA 28 (.bool t31) ?_
       refine oV [(0, t0), (2, newP h), (3, .int .u8 t6), (7, .int .u8 t6), (28, .bool t31)] (n90 ?_)
       obtain ⟨k92, e92, z⟩ := lS z
       have J92 : ∀ (t28_93 : Bool) (h_94 : AHeap), k92 t28_93 h_94 = some (rR, hR) → Go w0 m0 (Func.ntmps Try.f88) (K67 .normal) [(0, t0), (2, newP h), (3, .int .u8 t6), (28, .bool t28_93)] [] h_94 := by
        intro t28_93 h_94 z
        rw [e92] at z
        exact gW _ (J87 _ _ z)
       cases t31 with
       | true =>
        refine oT z fun z => ?_
        refine oZ ?_
        exact gW _ (J92 _ _ z)
       | false =>
        refine oU z fun z => ?_
        refine oG fun n95 => W.r ?_
        refine oB 32 z fun t32 z => ?_
        refine oA 28 (.bool t32) ?_
        refine oV [(0, t0), (2, newP h), (3, .int .u8 t6), (7, .int .u8 t6), (28, .bool t32)] (n95 ?_)
        obtain ⟨k97, e97, z⟩ := lS z
        have J97 : ∀ (t28_98 : Bool) (h_99 : AHeap), k97 t28_98 h_99 = some (rR, hR) → Go w0 m0 (Func.ntmps Try.f88) (K67 .normal) [(0, t0), (2, newP h), (3, .int .u8 t6), (28, .bool t28_98)] [] h_99 := by
         intro t28_98 h_99 z
         rw [e97] at z
         exact gW _ (J92 _ _ z)
        cases t32 with
        | true =>
         refine oT z fun z => ?_
         refine oZ ?_
         exact gW _ (J97 _ _ z)
        | false =>
         refine oU z fun z => ?_
         refine oG fun n100 => W.r ?_
         refine oB 33 z fun t33 z => ?_
         refine oA 28 (.bool t33) ?_
         refine oV [(0, t0), (2, newP h), (3, .int .u8 t6), (7, .int .u8 t6), (28, .bool t33)] (n100 ?_)
         obtain ⟨k102, e102, z⟩ := lS z
         have J102 : ∀ (t28_103 : Bool) (h_104 : AHeap), k102 t28_103 h_104 = some (rR, hR) → Go w0 m0 (Func.ntmps Try.f88) (K67 .normal) [(0, t0), (2, newP h), (3, .int .u8 t6), (28, .bool t28_103)] [] h_104 := by
          intro t28_103 h_104 z
          rw [e102] at z
          exact gW _ (J97 _ _ z)
         cases t33 with
         | true =>
          refine oT z fun z => ?_
          refine oZ ?_
          exact gW _ (J102 _ _ z)
         | false =>
          refine oU z fun z => ?_
          refine W.r ?_
          refine oB 34 z fun t34 z => ?_
          refine oA 28 (.bool t34) ?_
          refine oV [(0, t0), (2, newP h), (3, .int .u8 t6), (28, .bool t34)] ?_
          exact gW _ (J102 _ _ z)
noncomputable def pattern_reader_members_L1b (call : CallF) (t0 : AV) (h_5 : AHeap) (k16 : AHeap → R) (self : AHeap → R) (h_48 : AHeap) : R :=
 callN (call 55 [t0, .int .u8 93] h_48) fun r11 h_51 =>
 obind (avBool r11) fun t11 =>
 lett (!t11) fun (t12 : Bool) =>
 ifB t12
 (
  callK (call 93 [t0, (newP h_5)] h_51) fun _ h_56 =>
  self h_56)
 (
  k16 h_51)
noncomputable def pattern_reader_members_L1 (call : CallF) (t0 : AV) (h_5 : AHeap) (k16 : AHeap → R) : Nat → AHeap → R := iterR (fun _ => none) (pattern_reader_members_L1b call t0 h_5 k16)
theorem pattern_reader_members_L1_s (call : CallF) (t0 : AV) (h_5 : AHeap) (k16 : AHeap → R) (m : Nat) : pattern_reader_members_L1 call t0 h_5 k16 (m + 1) = pattern_reader_members_L1b call t0 h_5 k16 (pattern_reader_members_L1 call t0 h_5 k16 m) := rfl
noncomputable def pattern_reader_members_L0b (h_5 : AHeap) (k29 : AHeap → R) (self : Int → AHeap → R) (t16 : Int) (h_32 : AHeap) : R :=
 lett (decide (t16 < 4)) fun (t17 : Bool) =>
 ifB t17
 (
  obind (idxA 4 1 (newP h_5) t16) fun t20 =>
  obind (ldCell h_32 t20) fun v21 =>
  obind (avInt .u64 v21) fun t21 =>
  lett (xorI .u64 t21 18446744073709551615) fun (t22 : Int) =>
  obind (idxA 4 1 (newP h_5) t16) fun t23 =>
  obind (stRow h_32 1 [.int .u64 t22] t23) fun h_44 =>
  lett (IntKind.i64.wrap (t16 + 1)) fun (t24 : Int) =>
  self t24 h_44)
 (
  k29 h_32)
noncomputable def pattern_reader_members_L0 (h_5 : AHeap) (k29 : AHeap → R) : Nat → Int → AHeap → R := iterR (fun _ _ => none) (pattern_reader_members_L0b h_5 k29)
theorem pattern_reader_members_L0_s (h_5 : AHeap) (k29 : AHeap → R) (m : Nat) : pattern_reader_members_L0 h_5 k29 (m + 1) = pattern_reader_members_L0b h_5 k29 (pattern_reader_members_L0 h_5 k29 m) := rfl
noncomputable def pattern_reader_members (call : CallF) (n : Nat) (t0 : AV) (h : AHeap) : R :=
 lett (newH h 38 [.int .u64 0, .int .u64 0, .int .u64 0, .int .u64 0]) fun h_2 =>
 callN (call 55 [t0, .int .u8 94] h_2) fun r7 h_5 =>
 obind (avBool r7) fun t7 =>
 lett (newH h_5 38 [.int .u64 0, .int .u64 0, .int .u64 0, .int .u64 0]) fun h_9 =>
 callK (call 93 [t0, (newP h_5)] h_9) fun _ h_12 =>
 lett (fun  (h_17 : AHeap) =>
  lett (fun  (h_21 : AHeap) =>
   obind (ldRow h_21 4 (newP h_5)) fun t25 =>
   obind (stRow h_21 4 t25 (newP h)) fun h_24 =>
   obind (ldRow h_24 4 (newP h)) fun w2 =>
   some (.ret (.agg w2), h_24)) fun k20 =>
  ifB t7
  (
   lett (fun  (h_30 : AHeap) =>
    k20 h_30) fun k29 =>
   pattern_reader_members_L0 h_5 k29 n 0 h_17)
  (
   k20 h_17)) fun k16 =>
 pattern_reader_members_L1 call t0 h_5 k16 n  h_12
theorem pattern_reader_members_ok {call : CallF} (hc : SaysAll Pg call) {n : Nat} {t0 : AV} {h : AHeap} {rR : ARes} {hR : AHeap} (z : pattern_reader_members call n t0 h = some (rR, hR)) : Says Pg 91 [t0] h rR hR := by
 unfold pattern_reader_members at z
 refine sO Try.func91 fun w0 m0 => ?_
 refine wW [(0, t0)] ?_
 refine oG fun n1 => W.r ?_
 refine oN 2 z fun h_2 z => ?_
 refine oV [(0, t0), (2, newP h)] (n1 ?_)
 refine oG fun n4 => W.r ?_
 refine oA 6 t0 ?_
 refine oCb hc 7 z fun t7 h_5 z => ?_
 refine oA 3 (.bool t7) ?_
 refine oV [(0, t0), (2, newP h), (3, .bool t7)] (n4 ?_)
 refine oG fun n8 => W.r ?_
 refine oN 4 z fun h_9 z => ?_
 refine oV [(0, t0), (2, newP h), (3, .bool t7), (4, newP h_5)] (n8 ?_)
 refine oJ fun n11 p11 => W.r ?_
 refine oA 8 t0 ?_
 refine oCK hc (some 9) z (fun q => p11 (Pf q)) fun r9 h_12 z => ?_
 refine oV [(0, t0), (2, newP h), (3, .bool t7), (4, newP h_5)] (n11 ?_)
 refine W.s (fun K14 n14 _ _ p14 => ?_)
 obtain ⟨k16, e16, z⟩ := lS z
 have J16 : ∀  (h_17 : AHeap), k16 h_17 = some (rR, hR) → Go w0 m0 (Func.ntmps Try.f91) (K14 .normal) [(2, newP h), (3, .bool t7), (4, newP h_5)] [] h_17 := by
  intro  h_17 z
  rw [e16] at z
  refine n14 ?_
  refine W.s (fun K18 n18 _ _ _ => ?_)
  refine oG fun n19 => W.r ?_
  refine oA 15 (.bool t7) ?_
  refine oV [(2, newP h), (4, newP h_5), (15, .bool t7)] (n19 ?_)
  obtain ⟨k20, e20, z⟩ := lS z
  have J20 : ∀  (h_21 : AHeap), k20 h_21 = some (rR, hR) → Go w0 m0 (Func.ntmps Try.f91) (K18 .normal) [(2, newP h), (4, newP h_5)] [] h_21 := by
   intro  h_21 z
   rw [e20] at z
   refine n18 ?_
   refine oG fun n22 => W.r ?_
   refine oR 25 38 z fun t25 z => ?_
   refine oW 38 (.agg t25) z fun h_24 z => ?_
   refine oV [(2, newP h)] (n22 (oY ?_))
   obtain ⟨w2, e26, z⟩ := oS z
   exact lZ z [.cell 2 38] [.agg w2] (rY e26 res_nil)
  cases t7 with
  | true =>
   refine oT z fun z => ?_
   refine oG fun n27 => W.r ?_
   refine oA 16 (.int .i64 0) ?_
   refine oV [(2, newP h), (4, newP h_5), (16, .int .i64 0)] (n27 ?_)
   obtain ⟨k29, e29, z⟩ := lS z
   have J29 : ∀  (h_30 : AHeap), k29 h_30 = some (rR, hR) → Go w0 m0 (Func.ntmps Try.f91) (K18 .normal) [(2, newP h), (4, newP h_5)] [] h_30 := by
    intro  h_30 z
    rw [e29] at z
    exact gW _ (J20 _ z)
   refine W.blockK (by kernel_rfl) (fun K28 n28 s28 o28 q28 p28 => ?_)
   refine W.loopK (by kernel_rfl) (fun I31 K31 b31 n31 e31 q31 p31 => ?_)
   have L31 : ∀ (m : Nat) (t16 : Int) (h_32 : AHeap), pattern_reader_members_L0 h_5 k29 m t16 h_32 = some (rR, hR) → Go w0 m0 (Func.ntmps Try.f91) I31 [(2, newP h), (4, newP h_5), (16, .int .i64 t16)] [] h_32 := by
    intro m
    induction m with
    | zero => intro t16 h_32 z; cases z
    | succ m ih31 =>
     intro t16 h_32 z
     rw [pattern_reader_members_L0_s] at z; unfold pattern_reader_members_L0b at z
     refine b31 ?_
     refine oG fun n33 => W.r ?_
     refine oB 17 z fun t17 z => ?_
     refine oV [(2, newP h), (4, newP h_5), (16, .int .i64 t16), (17, .bool t17)] (n33 ?_)
     refine W.s (fun _ n35 e35 _ _ => ?_)
     cases t17 with
     | true =>
      refine oT z fun z => ?_
      refine oZ (n35 ?_)
      refine oG fun n36 => ?_
      refine W.blockK (by kernel_rfl) (fun K37 n37 s37 o37 q37 p37 => ?_)
      refine oG fun n38 => W.r ?_
      refine oA 18 (.int .i64 t16) ?_
      refine oA 5 (.int .i64 t16) ?_
      refine oV [(2, newP h), (4, newP h_5), (5, .int .i64 t16), (16, .int .i64 t16)] (n38 (W.r ?_))
      refine oA 19 (.int .i64 t16) ?_
      refine oQ 20 38 36 .i64 z fun t20 z => ?_
      refine oLi 21 36 z fun t21 z => ?_
      refine oI 22 .u64 z fun t22 z => ?_
      refine oQ 23 38 36 .i64 z fun t23 z => ?_
      refine oW 36 (.int .u64 t22) z fun h_44 z => ?_
      refine oV [(2, newP h), (4, newP h_5), (16, .int .i64 t16)] (n37 (n36 (W.r ?_)))
      refine oI 24 .i64 z fun t24 z => ?_
      refine oA 16 (.int .i64 t24) ?_
      refine oV [(2, newP h), (4, newP h_5), (16, .int .i64 t24)] (n31 ?_)
      exact gW _ (ih31 _ _ z)
     | false =>
      refine oU z fun z => ?_
      refine W.exit (by kernel_rfl) ?_
      refine e35 (e31 ?_)
      refine s28 (by kernel_rfl) ?_
      exact gW _ (J29 _ z)
   exact gW _ (L31 _ _ _ z)
  | false =>
   refine oU z fun z => ?_
   refine oZ ?_
   exact gW _ (J20 _ z)
 refine W.blockK (by kernel_rfl) (fun K15 n15 s15 o15 q15 p15 => ?_)
 refine W.loopK (by kernel_rfl) (fun I47 K47 b47 n47 e47 q47 p47 => ?_)
 have L47 : ∀ (m : Nat)  (h_48 : AHeap), pattern_reader_members_L1 call t0 h_5 k16 m  h_48 = some (rR, hR) → Go w0 m0 (Func.ntmps Try.f91) I47 [(0, t0), (2, newP h), (3, .bool t7), (4, newP h_5)] [] h_48 := by
  intro m
  induction m with
  | zero => intro  h_48 z; cases z
  | succ m ih47 =>
   intro  h_48 z
   rw [pattern_reader_members_L1_s] at z; unfold pattern_reader_members_L1b at z
   refine b47 ?_
   refine W.s (fun _ n49 e49 _ _ => ?_)
   refine oG fun n50 => W.r ?_
   refine oA 10 t0 ?_
   refine oCb hc 11 z fun t11 h_51 z => ?_
   refine oB 12 z fun t12 z => ?_
   refine oV [(0, t0), (2, newP h), (3, .bool t7), (4, newP h_5), (12, .bool t12)] (n50 ?_)
   cases t12 with
   | true =>
    refine oT z fun z => ?_
    refine oZ (n49 ?_)
    refine W.blockK (by kernel_rfl) (fun K55 n55 s55 o55 q55 p55 => ?_)
    refine W.r ?_
    refine oA 13 t0 ?_
    refine oCK hc (some 14) z (fun q => p55 (p47 (p15 (p14 (Pf q))))) fun r14 h_56 z => ?_
    refine oV [(0, t0), (2, newP h), (3, .bool t7), (4, newP h_5)] (n55 (n47 ?_))
    exact gW _ (ih47 _ z)
   | false =>
    refine oU z fun z => ?_
    refine W.exit (by kernel_rfl) ?_
    refine e49 (e47 ?_)
    refine s15 (by kernel_rfl) ?_
    exact gW _ (J16 _ z)
 exact gW _ (L47 _ _ z)
noncomputable def pattern_reader_member (call : CallF) (_ : Nat) (t0 : AV) (t1 : AV) (h : AHeap) : R :=
 callK (call 94 [t0] h) fun r7 h_2 =>
 obind (avInt .u8 r7) fun t7 =>
 callN (call 55 [t0, .int .u8 45] h_2) fun r10 h_8 =>
 obind (avBool r10) fun t10 =>
 lett (fun (t5 : Int) (h_12 : AHeap) =>
  callN (call 84 [t1, .int .u8 t7, .int .u8 t5] h_12) fun _ h_13 =>
  some (.ret (.tup []), h_13)) fun k11 =>
 ifB t10
 (
  callK (call 94 [t0] h_8) fun r12 h_16 =>
  obind (avInt .u8 r12) fun t12 =>
  lett (decide (t12 < t7)) fun (t15 : Bool) =>
  lett (fun  (h_22 : AHeap) =>
   k11 t12 h_22) fun k21 =>
  ifB t15
  (
   callK (call 72 [t0] h_16) fun _ h_23 =>
   k21 h_23)
  (
   k21 h_16))
 (
  k11 t7 h_8)
theorem pattern_reader_member_ok {call : CallF} (hc : SaysAll Pg call) {n : Nat} {t0 : AV} {t1 : AV} {h : AHeap} {rR : ARes} {hR : AHeap} (z : pattern_reader_member call n t0 t1 h = some (rR, hR)) : Says Pg 93 [t0, t1] h rR hR := by
 unfold pattern_reader_member at z
 refine sO Try.func93 fun w0 m0 => ?_
 refine wW [(0, t0), (1, t1)] ?_
 refine oJ fun n1 p1 => W.r ?_
 refine oA 6 t0 ?_
 refine oCK hc (some 7) z (fun q => p1 (Pf q)) fun r7 h_2 z => ?_
 replace z := oS z; obtain ⟨t7, c4, z⟩ := z
 have c4 := avInt_some c4
 subst c4
 refine oA 4 (.int .u8 t7) ?_
 refine oV [(0, t0), (1, t1), (4, .int .u8 t7)] (n1 ?_)
 refine oG fun n5 => W.r ?_
 refine oA 8 (.int .u8 t7) ?_
 refine oA 5 (.int .u8 t7) ?_
 refine oV [(0, t0), (1, t1), (4, .int .u8 t7), (5, .int .u8 t7)] (n5 ?_)
 refine W.s (fun K6 n6 _ _ p6 => ?_)
 refine oG fun n7 => W.r ?_
 refine oA 9 t0 ?_
 refine oCb hc 10 z fun t10 h_8 z => ?_
 refine oV [(0, t0), (1, t1), (4, .int .u8 t7), (5, .int .u8 t7), (10, .bool t10)] (n7 ?_)
 obtain ⟨k11, e11, z⟩ := lS z
 have J11 : ∀ (t5 : Int) (h_12 : AHeap), k11 t5 h_12 = some (rR, hR) → Go w0 m0 (Func.ntmps Try.f93) (K6 .normal) [(1, t1), (4, .int .u8 t7), (5, .int .u8 t5)] [] h_12 := by
  intro t5 h_12 z
  rw [e11] at z
  refine n6 (W.r ?_)
  refine oA 18 t1 ?_
  refine oA 19 (.int .u8 t7) ?_
  refine oA 20 (.int .u8 t5) ?_
  refine oC hc (some 21) z fun r21 h_13 z => ?_
  refine oV [] ?_
  exact lY z [] [] res_nil
 cases t10 with
 | true =>
  refine oT z fun z => ?_
  refine oJ fun n15 p15 => W.r ?_
  refine oA 11 t0 ?_
  refine oCK hc (some 12) z (fun q => p15 (p6 (Pf q))) fun r12 h_16 z => ?_
  replace z := oS z; obtain ⟨t12, c18, z⟩ := z
  have c18 := avInt_some c18
  subst c18
  refine oA 5 (.int .u8 t12) ?_
  refine oV [(0, t0), (1, t1), (4, .int .u8 t7), (5, .int .u8 t12)] (n15 ?_)
  refine oG fun n19 => W.r ?_
  refine oA 13 (.int .u8 t12) ?_
  refine oA 14 (.int .u8 t7) ?_
  refine oB 15 z fun t15 z => ?_
  refine oV [(0, t0), (1, t1), (4, .int .u8 t7), (5, .int .u8 t12), (15, .bool t15)] (n19 ?_)
  obtain ⟨k21, e21, z⟩ := lS z
  have J21 : ∀  (h_22 : AHeap), k21 h_22 = some (rR, hR) → Go w0 m0 (Func.ntmps Try.f93) (K6 .normal) [(1, t1), (4, .int .u8 t7), (5, .int .u8 t12)] [] h_22 := by
   intro  h_22 z
   rw [e21] at z
   exact gW _ (J11 _ _ z)
  cases t15 with
  | true =>
   refine oT z fun z => ?_
   refine W.r ?_
   refine oA 16 t0 ?_
   refine oCK hc (some 17) z (fun q => p6 (Pf q)) fun r17 h_23 z => ?_
   refine oV [(1, t1), (4, .int .u8 t7), (5, .int .u8 t12)] ?_
   exact gW _ (J21 _ z)
  | false =>
   refine oU z fun z => ?_
   refine oZ ?_
   exact gW _ (J21 _ z)
 | false =>
  refine oU z fun z => ?_
  refine oZ ?_
  exact gW _ (J11 _ _ z)
noncomputable def pattern_reader_memberByte (call : CallF) (_ : Nat) (t0 : AV) (h : AHeap) : R :=
 callK (call 71 [t0] h) fun r5 h_3 =>
 obind (avInt .u8 r5) fun t5 =>
 lett ((t5 : Int) == 92) fun (t8 : Bool) =>
 ifB t8
 (
  callK (call 71 [t0] h_3) fun r10 h_12 =>
  obind (avInt .u8 r10) fun t10 =>
  some (.ret (.int .u8 t10), h_12))
 (
  lett ((t5 : Int) == 91) fun (t12 : Bool) =>
  lett (fun (t11 : Bool) (h_20 : AHeap) =>
   lett (fun  (h_22 : AHeap) =>
    some (.ret (.int .u8 t5), h_22)) fun k21 =>
   ifB t11
   (
    callK (call 72 [t0] h_20) fun _ h_24 =>
    k21 h_24)
   (
    k21 h_20)) fun k19 =>
  ifB t12
  (
   k19 true h_3)
  (
   lett ((t5 : Int) == 93) fun (t13 : Bool) =>
   lett (fun (t11_30 : Bool) (h_31 : AHeap) =>
    k19 t11_30 h_31) fun k29 =>
   ifB t13
   (
    k29 true h_3)
   (
    lett ((t5 : Int) == 94) fun (t14 : Bool) =>
    lett (fun (t11_35 : Bool) (h_36 : AHeap) =>
     k29 t11_35 h_36) fun k34 =>
    ifB t14
    (
     k34 true h_3)
    (
     lett ((t5 : Int) == 45) fun (t15 : Bool) =>
     k34 t15 h_3))))
theorem pattern_reader_memberByte_ok {call : CallF} (hc : SaysAll Pg call) {n : Nat} {t0 : AV} {h : AHeap} {rR : ARes} {hR : AHeap} (z : pattern_reader_memberByte call n t0 h = some (rR, hR)) : Says Pg 94 [t0] h rR hR := by
 unfold pattern_reader_memberByte at z
 refine sO Try.func94 fun w0 m0 => ?_
 refine wW [(0, t0)] ?_
 refine oG fun n1 => W.r ?_
 refine oA 2 (.int .u8 0) ?_
 refine oV [(0, t0)] (n1 ?_)
 refine oJ fun n2 p2 => W.r ?_
 refine oA 4 t0 ?_
 refine oCK hc (some 5) z (fun q => p2 (Pf q)) fun r5 h_3 z => ?_
 replace z := oS z; obtain ⟨t5, c5, z⟩ := z
 have c5 := avInt_some c5
 subst c5
 refine oA 3 (.int .u8 t5) ?_
 refine oV [(0, t0), (3, .int .u8 t5)] (n2 ?_)
 refine W.s (fun _ n6 _ q6 p6 => ?_)
 refine oG fun n7 => W.r ?_
 refine oA 6 (.int .u8 t5) ?_
 refine oV [(0, t0), (3, .int .u8 t5), (6, .int .u8 t5)] (n7 ?_)
 refine W.blockK (by kernel_rfl) (fun K8 n8 s8 o8 q8 p8 => ?_)
 refine oG fun n9 => W.r ?_
 refine oB 8 z fun t8 z => ?_
 refine oA 7 (.bool t8) ?_
 refine oV [(0, t0), (3, .int .u8 t5), (6, .int .u8 t5), (7, .bool t8)] (n9 ?_)
 cases t8 with
 | true =>
  refine oT z fun z => ?_
  refine oJ fun n11 p11 => W.r ?_
  refine oA 9 t0 ?_
  refine oCK hc (some 10) z (fun q => p11 (p8 (p6 (Pf q)))) fun r10 h_12 z => ?_
  replace z := oS z; obtain ⟨t10, c14, z⟩ := z
  have c14 := avInt_some c14
  subst c14
  refine oA 2 (.int .u8 t10) ?_
  refine oV [(2, .int .u8 t10)] (n11 (oY (q8 (q6 ?_))))
  exact lZ z [.tmp 2] [.int .u8 t10] (rT res_nil)
 | false =>
  refine oU z fun z => ?_
  refine W.s (fun K16 n16 _ _ _ => ?_)
  refine oG fun n17 => W.r ?_
  refine oB 12 z fun t12 z => ?_
  refine oA 11 (.bool t12) ?_
  refine oV [(0, t0), (3, .int .u8 t5), (6, .int .u8 t5), (11, .bool t12)] (n17 ?_)
  obtain ⟨k19, e19, z⟩ := lS z
  have J19 : ∀ (t11 : Bool) (h_20 : AHeap), k19 t11 h_20 = some (rR, hR) → Go w0 m0 (Func.ntmps Try.f94) (K16 .normal) [(0, t0), (3, .int .u8 t5), (11, .bool t11)] [] h_20 := by
   intro t11 h_20 z
   rw [e19] at z
   refine n16 ?_
   obtain ⟨k21, e21, z⟩ := lS z
   have J21 : ∀  (h_22 : AHeap), k21 h_22 = some (rR, hR) → Go w0 m0 (Func.ntmps Try.f94) (K8 .normal) [(3, .int .u8 t5)] [] h_22 := by
    intro  h_22 z
    rw [e21] at z
    refine n8 (n6 ?_)
    refine oG fun n23 => W.r ?_
    refine oA 18 (.int .u8 t5) ?_
    refine oA 2 (.int .u8 t5) ?_
    refine oV [(2, .int .u8 t5)] (n23 (oY ?_))
    exact lZ z [.tmp 2] [.int .u8 t5] (rT res_nil)
   cases t11 with
   | true =>
    refine oT z fun z => ?_
    refine W.r ?_
    refine oA 16 t0 ?_
    refine oCK hc (some 17) z (fun q => p8 (p6 (Pf q))) fun r17 h_24 z => ?_
    refine oV [(3, .int .u8 t5)] ?_
    exact gW _ (J21 _ z)
   | false =>
    refine oU z fun z => ?_
    refine oZ ?_
    exact gW _ (J21 _ z)
  cases t12 with
  | true =>
   refine oT z fun z => ?_
   refine oZ ?_
   exact gW _ (J19 _ _ z)
  | false =>
   refine oU z fun z => ?_
   refine oG fun n27 => W.r ?_
   refine oB 13 z fun t13 z => ?_
   refine oA 11 (.bool t13) ?_
   refine oV [(0, t0), (3, .int .u8 t5), (6, .int .u8 t5), (11, .bool t13)] (n27 ?_)
   obtain ⟨k29, e29, z⟩ := lS z
   have J29 : ∀ (t11_30 : Bool) (h_31 : AHeap), k29 t11_30 h_31 = some (rR, hR) → Go w0 m0 (Func.ntmps Try.f94) (K16 .normal) [(0, t0), (3, .int .u8 t5), (11, .bool t11_30)] [] h_31 := by
    intro t11_30 h_31 z
    rw [e29] at z
    exact gW _ (J19 _ _ z)
   cases t13 with
   | true =>
    refine oT z fun z => ?_
    refine oZ ?_
    exact gW _ (J29 _ _ z)
   | false =>
    refine oU z fun z => ?_
    refine oG fun n32 => W.r ?_
    refine oB 14 z fun t14 z => ?_
    refine oA 11 (.bool t14) ?_
    refine oV [(0, t0), (3, .int .u8 t5), (6, .int .u8 t5), (11, .bool t14)] (n32 ?_)
    obtain ⟨k34, e34, z⟩ := lS z
    have J34 : ∀ (t11_35 : Bool) (h_36 : AHeap), k34 t11_35 h_36 = some (rR, hR) → Go w0 m0 (Func.ntmps Try.f94) (K16 .normal) [(0, t0), (3, .int .u8 t5), (11, .bool t11_35)] [] h_36 := by
     intro t11_35 h_36 z
     rw [e34] at z
     exact gW _ (J29 _ _ z)
    cases t14 with
    | true =>
     refine oT z fun z => ?_
     refine oZ ?_
     exact gW _ (J34 _ _ z)
    | false =>
     refine oU z fun z => ?_
     refine W.r ?_
     refine oB 15 z fun t15 z => ?_
     refine oA 11 (.bool t15) ?_
     refine oV [(0, t0), (3, .int .u8 t5), (11, .bool t15)] ?_
     exact gW _ (J34 _ _ z)
noncomputable def pattern_addSpan_L0b (t0 : AV) (t2 : Int) (k4 : AHeap → R) (self : Int → AHeap → R) (t6 : Int) (h_7 : AHeap) : R :=
 lett (IntKind.i64.wrap t2) fun (t11 : Int) =>
 lett (decide (t6 ≤ t11)) fun (t12 : Bool) =>
 ifB t12
 (
  obind (quoI .i64 t6 64) fun t17 =>
  obind (nilC t0) fun t18 =>
  obind (idxA 4 1 t18 t17) fun t19 =>
  obind (ldCell h_7 t19) fun v20 =>
  obind (avInt .u64 v20) fun t20 =>
  obind (remI .i64 t6 64) fun t22 =>
  obind (shlI .u64 1 t22) fun t23 =>
  lett (orI .u64 t20 t23) fun (t24 : Int) =>
  obind (nilC t0) fun t25 =>
  obind (idxA 4 1 t25 t17) fun t26 =>
  obind (stRow h_7 1 [.int .u64 t24] t26) fun h_24 =>
  lett (IntKind.i64.wrap (t6 + 1)) fun (t14 : Int) =>
  self t14 h_24)
 (
  k4 h_7)
noncomputable def pattern_addSpan_L0 (t0 : AV) (t2 : Int) (k4 : AHeap → R) : Nat → Int → AHeap → R := iterR (fun _ _ => none) (pattern_addSpan_L0b t0 t2 k4)
theorem pattern_addSpan_L0_s (t0 : AV) (t2 : Int) (k4 : AHeap → R) (m : Nat) : pattern_addSpan_L0 t0 t2 k4 (m + 1) = pattern_addSpan_L0b t0 t2 k4 (pattern_addSpan_L0 t0 t2 k4 m) := rfl
noncomputable def pattern_addSpan (_ : CallF) (n : Nat) (t0 : AV) (t1 : Int) (t2 : Int) (h : AHeap) : R :=
 lett (IntKind.i64.wrap t1) fun (t8 : Int) =>
 lett (fun  (h_5 : AHeap) =>
  some (.ret (.tup []), h_5)) fun k4 =>
 pattern_addSpan_L0 t0 t2 k4 n t8 h
theorem pattern_addSpan_ok {call : CallF} (hc : SaysAll Pg call) {n : Nat} {t0 : AV} {t1 : Int} {t2 : Int} {h : AHeap} {rR : ARes} {hR : AHeap} (z : pattern_addSpan call n t0 t1 t2 h = some (rR, hR)) : Says Pg 84 [t0, .int .u8 t1, .int .u8 t2] h rR hR := by
 unfold pattern_addSpan at z
 refine sO Try.func84 fun w0 m0 => ?_
 refine wW [(0, t0), (1, .int .u8 t1), (2, .int .u8 t2)] ?_
 refine oG fun n1 => W.r ?_
 refine oA 7 (.int .u8 t1) ?_
 refine oI 8 .i64 z fun t8 z => ?_
 refine oA 6 (.int .i64 t8) ?_
 refine oV [(0, t0), (2, .int .u8 t2), (6, .int .i64 t8)] (n1 ?_)
 obtain ⟨k4, e4, z⟩ := lS z
 have J4 : ∀  (h_5 : AHeap), k4 h_5 = some (rR, hR) → Go w0 m0 (Func.ntmps Try.f84) (Fin Pg Try.f84 w0 m0 rR hR .normal) [] [] h_5 := by
  intro  h_5 z
  rw [e4] at z
  exact lY z [] [] res_nil
 refine W.blockK (by kernel_rfl) (fun K3 n3 s3 o3 q3 p3 => ?_)
 refine W.loopK (by kernel_rfl) (fun I6 K6 b6 n6 e6 q6 p6 => ?_)
 have L6 : ∀ (m : Nat) (t6 : Int) (h_7 : AHeap), pattern_addSpan_L0 t0 t2 k4 m t6 h_7 = some (rR, hR) → Go w0 m0 (Func.ntmps Try.f84) I6 [(0, t0), (2, .int .u8 t2), (6, .int .i64 t6)] [] h_7 := by
  intro m
  induction m with
  | zero => intro t6 h_7 z; cases z
  | succ m ih6 =>
   intro t6 h_7 z
   rw [pattern_addSpan_L0_s] at z; unfold pattern_addSpan_L0b at z
   refine b6 ?_
   refine W.s (fun _ n8 e8 _ _ => ?_)
   refine oG fun n9 => W.r ?_
   refine oA 9 (.int .i64 t6) ?_
   refine oA 10 (.int .u8 t2) ?_
   refine oI 11 .i64 z fun t11 z => ?_
   refine oB 12 z fun t12 z => ?_
   refine oV [(0, t0), (2, .int .u8 t2), (6, .int .i64 t6), (12, .bool t12)] (n9 ?_)
   cases t12 with
   | true =>
    refine oT z fun z => ?_
    refine oZ (n8 ?_)
    refine oG fun n12 => ?_
    refine W.blockK (by kernel_rfl) (fun K13 n13 s13 o13 q13 p13 => ?_)
    refine W.draw (by kernel_rfl) (hc.ok w0) (plan := [0, 1, 2, 3, 4, 5, 6, 7, 8, 9, 10, 11, 12]) (by kernel_rfl) (by kernel_rfl) (by kernel_rfl) ?_
    refine WD.a 0 (some 15) t0 h_7 ?_
    refine WD.a 0 (some 16) (.int .i64 t6) h_7 ?_
    obtain ⟨t17, e14, z⟩ := oS z
    refine WD.b 0 (some 17) (.int .i64 t17) h_7 (quo_int (P := Pg) (h := h_7) (t := 3) (lit := true) e14) ?_
    obtain ⟨t18, e15, z⟩ := oS z
    refine WD.b 0 (some 18) t18 h_7 (nil_chk (h := h_7) e15) ?_
    obtain ⟨t19, e16, z⟩ := oS z
    refine WD.b 0 (some 19) t19 h_7 (index_arr (P := Pg) (h := h_7) (t := 38) (e' := 36) (k := .i64) (by kernel_rfl) (by kernel_rfl) (by kernel_rfl) e16) ?_
    replace z := oS z; obtain ⟨v20, e17, z⟩ := z
    replace z := oS z; obtain ⟨t20, c18, z⟩ := z
    have c18 := avInt_some c18
    subst c18
    refine WD.b 1 (some 20) (.int .u64 t20) h_7 (load_cell (P := Pg) (h := h_7) (t := 36) (by kernel_rfl) e17) ?_
    refine WD.a 0 (some 21) (.int .i64 t6) h_7 ?_
    obtain ⟨t22, e19, z⟩ := oS z
    refine WD.b 0 (some 22) (.int .i64 t22) h_7 (rem_int (P := Pg) (h := h_7) (t := 3) (lit := true) e19) ?_
    obtain ⟨t23, e20, z⟩ := oS z
    refine WD.b 0 (some 23) (.int .u64 t23) h_7 (shl_int (P := Pg) (h := h_7) (t := 36) (k' := .i64) (lit := true) e20) ?_
    obtain ⟨t24, e21, z⟩ := lS z
    refine WD.val (d := (some 24)) (v := .int .u64 t24) (h' := h_7) (by kernel_rfl) (by kernel_rfl) (val_of (AV.int .u64) e21 (by kernel_rfl)) (k := 0) (by kernel_rfl) (fun e => absurd e (by decide)) (by decide) ?_
    obtain ⟨t25, e22, z⟩ := oS z
    refine WD.b 0 (some 25) t25 h_7 (nil_chk (h := h_7) e22) ?_
    obtain ⟨t26, e23, z⟩ := oS z
    refine WD.b 0 (some 26) t26 h_7 (index_arr (P := Pg) (h := h_7) (t := 38) (e' := 36) (k := .i64) (by kernel_rfl) (by kernel_rfl) (by kernel_rfl) e23) ?_
    obtain ⟨h_24, e25, z⟩ := oS z
    refine WD.eff (h' := h_24) (by kernel_rfl) (by kernel_rfl) (Eq.trans (by kernel_rfl) (store_row (P := Pg) (h := h_7) (t := 36) (v := (.int .u64 t24)) (by kernel_rfl) (by kernel_rfl) e25)) (k := 2) (by kernel_rfl) (fun _ => (by kernel_rfl)) (by decide) ?_
    refine WD.nil ?_
    refine gW [(0, t0), (2, .int .u8 t2), (6, .int .i64 t6)] (n13 (n12 (W.r ?_)))
    refine oA 13 (.int .i64 t6) ?_
    refine oI 14 .i64 z fun t14 z => ?_
    refine oA 6 (.int .i64 t14) ?_
    refine oV [(0, t0), (2, .int .u8 t2), (6, .int .i64 t14)] (n6 ?_)
    exact gW _ (ih6 _ _ z)
   | false =>
    refine oU z fun z => ?_
    refine W.exit (by kernel_rfl) ?_
    refine e8 (e6 ?_)
    refine s3 (by kernel_rfl) ?_
    exact gW _ (J4 _ z)
 exact gW _ (L6 _ _ _ z)
noncomputable def pattern_oneByte (call : CallF) (_ : Nat) (t0 : Int) (h : AHeap) : R :=
 lett (newH h 41 [.int .i64 0, .int .u64 0, .int .u64 0, .int .u64 0, .int .u64 0, .nsl]) fun h_2 =>
 lett (newH h_2 41 [.int .i64 0, .int .u64 0, .int .u64 0, .int .u64 0, .int .u64 0, .nsl]) fun h_5 =>
 obind (stRow h_5 6 ([.int .i64 2, .int .u64 0, .int .u64 0, .int .u64 0, .int .u64 0, .nsl] : List AV) (newP h_2)) fun h_7 =>
 callN (call 84 [(AV.ptr (AHeap.next h_2) 1), .int .u8 t0, .int .u8 t0] h_7) fun _ h_10 =>
 obind (ldRow h_10 6 (newP h_2)) fun t9 =>
 obind (stRow h_10 6 t9 (newP h)) fun h_14 =>
 obind (ldRow h_14 6 (newP h)) fun w2 =>
 some (.ret (.agg w2), h_14)
theorem pattern_oneByte_ok {call : CallF} (hc : SaysAll Pg call) {n : Nat} {t0 : Int} {h : AHeap} {rR : ARes} {hR : AHeap} (z : pattern_oneByte call n t0 h = some (rR, hR)) : Says Pg 78 [.int .u8 t0] h rR hR := by
 unfold pattern_oneByte at z
 refine sO Try.func78 fun w0 m0 => ?_
 refine wW [(0, .int .u8 t0)] ?_
 refine oG fun n1 => W.r ?_
 refine oN 2 z fun h_2 z => ?_
 refine oV [(0, .int .u8 t0), (2, newP h)] (n1 ?_)
 refine oG fun n4 => W.r ?_
 refine oA 4 (.agg ([.int .i64 2, .int .u64 0, .int .u64 0, .int .u64 0, .int .u64 0, .nsl] : List AV)) ?_
 refine oN 3 z fun h_5 z => ?_
 refine oW 41 (.agg ([.int .i64 2, .int .u64 0, .int .u64 0, .int .u64 0, .int .u64 0, .nsl] : List AV)) z fun h_7 z => ?_
 refine oV [(0, .int .u8 t0), (2, newP h), (3, newP h_2)] (n4 ?_)
 refine oG fun n9 => W.r ?_
 refine oA 5 (AV.ptr (AHeap.next h_2) 1) ?_
 refine oA 6 (.int .u8 t0) ?_
 refine oA 7 (.int .u8 t0) ?_
 refine oC hc (some 8) z fun r8 h_10 z => ?_
 refine oV [(2, newP h), (3, newP h_2)] (n9 ?_)
 refine oG fun n12 => W.r ?_
 refine oR 9 41 z fun t9 z => ?_
 refine oW 41 (.agg t9) z fun h_14 z => ?_
 refine oV [(2, newP h)] (n12 (oY ?_))
 obtain ⟨w2, e16, z⟩ := oS z
 exact lZ z [.cell 2 41] [.agg w2] (rY e16 res_nil)
noncomputable def pattern_anyByte (call : CallF) (_ : Nat)  (h : AHeap) : R :=
 lett (newH h 41 [.int .i64 0, .int .u64 0, .int .u64 0, .int .u64 0, .int .u64 0, .nsl]) fun h_2 =>
 lett (newH h_2 41 [.int .i64 0, .int .u64 0, .int .u64 0, .int .u64 0, .int .u64 0, .nsl]) fun h_5 =>
 obind (stRow h_5 6 ([.int .i64 2, .int .u64 0, .int .u64 0, .int .u64 0, .int .u64 0, .nsl] : List AV) (newP h_2)) fun h_7 =>
 callN (call 84 [(AV.ptr (AHeap.next h_2) 1), .int .u8 0, .int .u8 255] h_7) fun _ h_10 =>
 obind (ldRow h_10 6 (newP h_2)) fun t5 =>
 obind (stRow h_10 6 t5 (newP h)) fun h_14 =>
 obind (ldRow h_14 6 (newP h)) fun w0 =>
 some (.ret (.agg w0), h_14)
theorem pattern_anyByte_ok {call : CallF} (hc : SaysAll Pg call) {n : Nat}  {h : AHeap} {rR : ARes} {hR : AHeap} (z : pattern_anyByte call n  h = some (rR, hR)) : Says Pg 77 [] h rR hR := by
 unfold pattern_anyByte at z
 refine sO Try.func77 fun w0 m0 => ?_
 refine wW [] ?_
 refine oG fun n1 => W.r ?_
 refine oN 0 z fun h_2 z => ?_
 refine oV [(0, newP h)] (n1 ?_)
 refine oG fun n4 => W.r ?_
 refine oA 2 (.agg ([.int .i64 2, .int .u64 0, .int .u64 0, .int .u64 0, .int .u64 0, .nsl] : List AV)) ?_
 refine oN 1 z fun h_5 z => ?_
 refine oW 41 (.agg ([.int .i64 2, .int .u64 0, .int .u64 0, .int .u64 0, .int .u64 0, .nsl] : List AV)) z fun h_7 z => ?_
 refine oV [(0, newP h), (1, newP h_2)] (n4 ?_)
 refine oG fun n9 => W.r ?_
 refine oA 3 (AV.ptr (AHeap.next h_2) 1) ?_
 refine oC hc (some 4) z fun r4 h_10 z => ?_
 refine oV [(0, newP h), (1, newP h_2)] (n9 ?_)
 refine oG fun n12 => W.r ?_
 refine oR 5 41 z fun t5 z => ?_
 refine oW 41 (.agg t5) z fun h_14 z => ?_
 refine oV [(0, newP h)] (n12 (oY ?_))
 obtain ⟨w0, e16, z⟩ := oS z
 exact lZ z [.cell 0 41] [.agg w0] (rY e16 res_nil)
noncomputable def pattern_over (_ : CallF) (_ : Nat) (t0 : Int) (t1 : AV) (h : AHeap) : R :=
 lett (newH h 41 [.int .i64 0, .int .u64 0, .int .u64 0, .int .u64 0, .int .u64 0, .nsl]) fun h_2 =>
 obind (bldS Pg 41 [(0, .int .i64 t0), (2, t1)]) fun t7 =>
 obind (stRow h_2 6 t7 (newP h)) fun h_6 =>
 obind (ldRow h_6 6 (newP h)) fun w4 =>
 some (.ret (.agg w4), h_6)
theorem pattern_over_ok {call : CallF} (_ : SaysAll Pg call) {n : Nat} {t0 : Int} {t1 : AV} {h : AHeap} {rR : ARes} {hR : AHeap} (z : pattern_over call n t0 t1 h = some (rR, hR)) : Says Pg 76 [.int .i64 t0, t1] h rR hR := by
 unfold pattern_over at z
 refine sO Try.func76 fun w0 m0 => ?_
 refine wW [(0, .int .i64 t0), (1, t1)] ?_
 refine oG fun n1 => W.r ?_
 refine oN 4 z fun h_2 z => ?_
 refine oV [(0, .int .i64 t0), (1, t1), (4, newP h)] (n1 ?_)
 refine oG fun n4 => W.r ?_
 refine oA 5 (.int .i64 t0) ?_
 refine oA 6 t1 ?_
 obtain ⟨t7, e5, z⟩ := oS z
 refine WL.val (d := (some 7)) (v := .agg t7) (h' := h_2) (by kernel_rfl) (by kernel_rfl) (bld_ok (by kernel_rfl) e5) ?_
 refine oW 41 (.agg t7) z fun h_6 z => ?_
 refine oV [(4, newP h)] (n4 (oY ?_))
 obtain ⟨w4, e8, z⟩ := oS z
 exact lZ z [.cell 4 41] [.agg w4] (rY e8 res_nil)
noncomputable def pattern_inRow (call : CallF) (_ : Nat) (t0 : AV) (h : AHeap) : R :=
 lett (newH h 41 [.int .i64 0, .int .u64 0, .int .u64 0, .int .u64 0, .int .u64 0, .nsl]) fun h_2 =>
 obind (lenL t0) fun t4 =>
 lett ((t4 : Int) == 0) fun (t6 : Bool) =>
 ifB t6
 (
  obind (stRow h_2 6 ([.int .i64 1, .int .u64 0, .int .u64 0, .int .u64 0, .int .u64 0, .nsl] : List AV) (newP h)) fun h_11 =>
  obind (ldRow h_11 6 (newP h)) fun w2 =>
  some (.ret (.agg w2), h_11))
 (
  lett ((t4 : Int) == 1) fun (t9 : Bool) =>
  ifB t9
  (
   obind (idxP 6 t0 0) fun t11 =>
   obind (ldRow h_2 6 t11) fun t12 =>
   obind (stRow h_2 6 t12 (newP h)) fun h_19 =>
   obind (ldRow h_19 6 (newP h)) fun w2_22 =>
   some (.ret (.agg w2_22), h_19))
  (
   callN (call 76 [.int .i64 3, t0] h_2) fun r14 h_24 =>
   obind (avAgg r14) fun t14 =>
   obind (stRow h_24 6 t14 (newP h)) fun h_27 =>
   obind (ldRow h_27 6 (newP h)) fun w2_30 =>
   some (.ret (.agg w2_30), h_27)))
theorem pattern_inRow_ok {call : CallF} (hc : SaysAll Pg call) {n : Nat} {t0 : AV} {h : AHeap} {rR : ARes} {hR : AHeap} (z : pattern_inRow call n t0 h = some (rR, hR)) : Says Pg 75 [t0] h rR hR := by
 unfold pattern_inRow at z
 refine sO Try.func75 fun w0 m0 => ?_
 refine wW [(0, t0)] ?_
 refine oG fun n1 => W.r ?_
 refine oN 2 z fun h_2 z => ?_
 refine oV [(0, t0), (2, newP h)] (n1 ?_)
 refine oH fun n4 q4 => ?_
 refine oG fun n5 => W.r ?_
 refine oA 3 t0 ?_
 refine oM 4 39 41 z fun t4 z => ?_
 refine oV [(0, t0), (2, newP h), (4, .int .i64 t4)] (n5 ?_)
 refine W.blockK (by kernel_rfl) (fun K7 n7 s7 o7 q7 p7 => ?_)
 refine oG fun n8 => W.r ?_
 refine oB 6 z fun t6 z => ?_
 refine oA 5 (.bool t6) ?_
 refine oV [(0, t0), (2, newP h), (4, .int .i64 t4), (5, .bool t6)] (n8 ?_)
 cases t6 with
 | true =>
  refine oT z fun z => ?_
  refine oG fun n10 => W.r ?_
  refine oA 7 (.agg ([.int .i64 1, .int .u64 0, .int .u64 0, .int .u64 0, .int .u64 0, .nsl] : List AV)) ?_
  refine oW 41 (.agg ([.int .i64 1, .int .u64 0, .int .u64 0, .int .u64 0, .int .u64 0, .nsl] : List AV)) z fun h_11 z => ?_
  refine oV [(2, newP h)] (n10 (oY (q7 (q4 ?_))))
  obtain ⟨w2, e13, z⟩ := oS z
  exact lZ z [.cell 2 41] [.agg w2] (rY e13 res_nil)
 | false =>
  refine oU z fun z => ?_
  refine oG fun n14 => W.r ?_
  refine oB 9 z fun t9 z => ?_
  refine oA 8 (.bool t9) ?_
  refine oV [(0, t0), (2, newP h), (8, .bool t9)] (n14 ?_)
  cases t9 with
  | true =>
   refine oT z fun z => ?_
   refine oG fun n16 => W.r ?_
   refine oA 10 t0 ?_
   refine oP 11 39 41 .i64 z fun t11 z => ?_
   refine oR 12 41 z fun t12 z => ?_
   refine oW 41 (.agg t12) z fun h_19 z => ?_
   refine oV [(2, newP h)] (n16 (oY (q7 (q4 ?_))))
   obtain ⟨w2_22, e21, z⟩ := oS z
   exact lZ z [.cell 2 41] [.agg w2_22] (rY e21 res_nil)
  | false =>
   refine oU z fun z => ?_
   refine oZ (n7 (n4 ?_))
   refine oG fun n23 => W.r ?_
   refine oA 13 t0 ?_
   refine oCa hc 14 z fun t14 h_24 z => ?_
   refine oW 41 (.agg t14) z fun h_27 z => ?_
   refine oV [(2, newP h)] (n23 (oY ?_))
   obtain ⟨w2_30, e29, z⟩ := oS z
   exact lZ z [.cell 2 41] [.agg w2_30] (rY e29 res_nil)
end Go.Proofs.Yteibdplpbcobbaa
