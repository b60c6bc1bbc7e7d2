/- Rows that nobody holds on to are let go. -/
import Derived.Test.YtpnccmlajhhpdaaAbs23
namespace Go.Proofs.Ytpnccmlajhhpdaa.Abs
noncomputable section
open Go.RowKit

/-- what was there is as it was -/
structure Above (h h' : AHeap) : Prop where
  next : h.next ≤ h'.next
  ex : h'.ex = h.ex
  get : ∀ b, b < h.next → h'.get b = h.get b
theorem Above.refl (h : AHeap) : Above h h := ⟨Nat.le_refl _, rfl, fun _ _ => rfl⟩
theorem Above.trans {a b c : AHeap} (h : Above a b) (k : Above b c) : Above a c := ⟨Nat.le_trans h.next k.next, k.ex.trans h.ex, fun i hi => (k.get i (Nat.lt_of_lt_of_le hi h.next)).trans (h.get i hi)⟩
theorem Above.new {a h : AHeap} (k : Above a h) (o : AObj) : Above a (h.new o) := ⟨Nat.le_succ_of_le k.next, k.ex, fun b hb => (get_new_other o (by have := k.next; omega)).trans (k.get b hb)⟩
theorem Above.newH {a h : AHeap} (k : Above a h) (e : TypeId) (l : List AV) : Above a (newH h e l) := k.new _
theorem Above.put {a h : AHeap} (k : Above a h) {b : Nat} (hb : a.next ≤ b) (o : AObj) : Above a (h.put b o) := ⟨k.next, k.ex, fun i hi => (get_put_other o (by omega)).trans (k.get i hi)⟩

mutual
/-- it leads to rows below n alone -/
def AV.lo (n : Nat) : AV → Bool
  | .bool _ | .int _ _ | .str _ _ | .nilp | .nsl | .esl | .nmp | .nfn | .nifc => true
  | .ptr b _ => Nat.blt b n
  | .sl b _ _ _ => Nat.blt b n
  | .mp b => Nat.blt b n
  | .fn _ a b => AV.loL n a && AV.loL n b
  | .ifc _ v => AV.lo n v
  | .agg l => AV.loL n l
  | .tup l => AV.loL n l
  | .yld b => Nat.blt b n
  | .mrk _ => false
  | .gptr _ _ => true
def AV.loL (n : Nat) : List AV → Bool
  | [] => true
  | x :: l => AV.lo n x && AV.loL n l
end
theorem ext_back {m m' : Map} (hx : Ext m m') {b : Nat} {p : Nat × Nat × Nat} (hb : b < m.length) (h : m'[b]? = some (some p)) : m[b]? = some (some p) := by
  cases e : m[b]? with
  | none => rw [List.getElem?_eq_none_iff] at e; omega
  | some q =>
    cases q with
    | none => rw [hx.virt b e] at h; cases h
    | some q => rw [hx.le b q e] at h; exact h
theorem blt_lt' {a b : Nat} (h : Nat.blt a b = true) : a < b := Nat.le_of_ble_eq_true h
mutual
theorem Rel.back {m m' : Map} (hx : Ext m m') : ∀ {x : AV} {y : Value}, Rel m' x y → x.lo m.length = true → Rel m x y
  | _, _, .bool b, _ => .bool b
  | _, _, .int k n, _ => .int k n
  | _, _, .str s hn hv, _ => .str s hn hv
  | _, _, .ptr e, h => .ptr (ext_back hx (blt_lt' (by simpa only [AV.lo] using h)) e)
  | _, _, .nilp, _ => .nilp
  | _, _, .sl e a b, h => .sl (ext_back hx (blt_lt' (by simpa only [AV.lo] using h)) e) a b
  | _, _, .nsl, _ => .nsl
  | _, _, .esl a c, _ => .esl a c
  | _, _, .mp e, h => .mp (ext_back hx (blt_lt' (by simpa only [AV.lo] using h)) e)
  | _, _, .nmp, _ => .nmp
  | _, _, .fn a b, h => by
    simp only [AV.lo, Bool.and_eq_true] at h
    exact .fn (RelL.back hx a h.1) (RelL.back hx b h.2)
  | _, _, .nfn, _ => .nfn
  | _, _, .ifc a, h => by
    simp only [AV.lo] at h
    exact .ifc (Rel.back hx a h)
  | _, _, .nifc, _ => .nifc
  | _, _, .agg a, h => by
    simp only [AV.lo] at h
    exact .agg (RelL.back hx a h)
  | _, _, .tup a, h => by
    simp only [AV.lo] at h
    exact .tup (RelL.back hx a h)
  | _, _, .yld e, h => .yld (ext_back hx (blt_lt' (by simpa only [AV.lo] using h)) e)
  | _, _, .gptr g o, _ => .gptr g o
theorem RelL.back {m m' : Map} (hx : Ext m m') : ∀ {x : List AV} {y : List Value}, RelL m' x y → AV.loL m.length x = true → RelL m x y
  | _, _, .nil, _ => .nil
  | _, _, .cons a b, h => by
    simp only [AV.loL, Bool.and_eq_true] at h
    exact .cons (Rel.back hx a h.1) (RelL.back hx b h.2)
end
theorem lt_blt {a b : Nat} (h : a < b) : Nat.blt a b = true := Nat.ble_eq_true_of_le h
theorem some_lt {m : Map} {b : Nat} {p : Option (Nat × Nat × Nat)} (h : m[b]? = some p) : b < m.length := (List.getElem?_eq_some_iff.1 h).1
mutual
theorem Rel.lo {m : Map} : ∀ {x : AV} {y : Value}, Rel m x y → x.lo m.length = true
  | _, _, .bool b => rfl
  | _, _, .int k n => rfl
  | _, _, .str s hn hv => rfl
  | _, _, .ptr e => lt_blt (some_lt e)
  | _, _, .nilp => rfl
  | _, _, .sl e a b => lt_blt (some_lt e)
  | _, _, .nsl => rfl
  | _, _, .esl a c => rfl
  | _, _, .mp e => lt_blt (some_lt e)
  | _, _, .nmp => rfl
  | _, _, .fn a b => by
    simp only [AV.lo, Bool.and_eq_true]
    exact ⟨RelL.lo a, RelL.lo b⟩
  | _, _, .nfn => rfl
  | _, _, .ifc a => by
    simp only [AV.lo]
    exact Rel.lo a
  | _, _, .nifc => rfl
  | _, _, .agg a => by
    simp only [AV.lo]
    exact RelL.lo a
  | _, _, .tup a => by
    simp only [AV.lo]
    exact RelL.lo a
  | _, _, .yld e => lt_blt (some_lt e)
  | _, _, .gptr _ _ => rfl
theorem RelL.lo {m : Map} : ∀ {x : List AV} {y : List Value}, RelL m x y → AV.loL m.length x = true
  | _, _, .nil => rfl
  | _, _, .cons a b => by
    simp only [AV.loL, Bool.and_eq_true]
    exact ⟨Rel.lo a, RelL.lo b⟩
end
section
variable {w0 : Base} {w w' : World} {m m' : Map} {h h' : AHeap}
theorem RelM.back (hx : Ext m m') : ∀ {es : List (AV × AV)} {es' es2 : List MapEntry}, RelM m' es es' → RelM m es es2 → RelM m es es' := by
  intro es
  induction es with
  | nil => intro es' es2 h _; cases h; exact .nil
  | cons p es ih =>
    intro es' es2 h k
    cases h with | cons a b c =>
    cases k with | cons a2 b2 c2 =>
    exact .cons (a.back hx a2.lo) (b.back hx b2.lo) (ih c c2)
/-- what has come since is let go -/
theorem Fits.drop (F : Fits w0 m h w) (hx : Ext m m') (F' : Fits w0 m' h' w') (ha : Above h h') : Fits w0 m h w' where
  below := F'.below
  floor := F'.floor
  pin k o hk := ⟨(F'.pin k o hk).1, fun b o2 s z hb ho hm => (F'.pin k o hk).2 b o2 s z (by rw [ha.get b (F.lt_next hb)]; exact hb) ho (hx.le b _ hm)⟩
  len := F.len
  fresh := F.fresh
  wf := F.wf
  row b n t e g s z hb hm := by
    have hlt := F.lt_next hb
    have hb' : h'.get b = some (.row n t e) := by rw [ha.get b hlt]; exact hb
    obtain ⟨h1, c, fz, a1, a2, a3, a4, a5, a6⟩ := F'.row b n t e g s z hb' (hx.le b _ hm)
    obtain ⟨_, c0, fz0, b1, b2, b3, b4, b5, b6⟩ := F.row b n t e g s z hb hm
    refine ⟨h1, c, fz, a1, a2, a3, a4, a5, fun i hi => ?_⟩
    obtain ⟨x, y, e1, e2, e3, e4⟩ := a6 i hi
    obtain ⟨x0, y0, f1, f2, f3, f4⟩ := b6 i hi
    rw [e1] at f1
    simp only [Option.some.injEq] at f1
    subst f1
    exact ⟨x, y, e1, e2, e3.back hx f3.lo, e4⟩
  map b es g s z hb hm := by
    have hlt := F.lt_next hb
    have hb' : h'.get b = some (.map es) := by rw [ha.get b hlt]; exact hb
    obtain ⟨h1, h2, h3, es', ck, a1, a2⟩ := F'.map b es g s z hb' (hx.le b _ hm)
    obtain ⟨_, _, _, es2, ck2, b1, b2⟩ := F.map b es g s z hb hm
    exact ⟨h1, h2, h3, es', ck, a1, a2.back hx b2⟩
  glob := F.glob
  obj b q g s z hb hm := by
    have hlt := F.lt_next hb
    have hb' : h'.get b = some (.obj q) := by rw [ha.get b hlt]; exact hb
    obtain ⟨h1, h2, h3, hk⟩ := F'.obj b q g s z hb' (hx.le b _ hm)
    obtain ⟨_, _, _, hk0⟩ := F.obj b q g s z hb hm
    refine ⟨h1, h2, h3, ?_⟩
    cases q with
    | dfr => exact hk
    | shut => exact hk
    | loop r =>
      obtain ⟨r', a1, a2, a3, a4, a5, a6, a7, a8, a9⟩ := hk
      obtain ⟨r0, b1, b2, b3, b4, b5, b6, b7, b8, b9⟩ := hk0
      refine ⟨r', a1, a2, a3, a4, fun t v hv => ?_, a6, a7, a8, ?_⟩
      · obtain ⟨v', c1, c2⟩ := a5 t v hv
        obtain ⟨v0, d1, d2⟩ := b5 t v hv
        exact ⟨v', c1, c2.back hx d2.lo⟩
      · have := hx.le _ _ b9
        rw [a9] at this
        rw [b9, ← this]
  exact b n t e g s z hb hm he := by
    have hlt := F.lt_next hb
    have hb' : h'.get b = some (.row n t e) := by rw [ha.get b hlt]; exact hb
    exact F'.exact b n t e g s z hb' (hx.le b _ hm) (by rw [ha.ex]; exact he)
  ro := F.ro
  sep := F.sep
theorem RetOK.drop {r : ARes} {e : Ending} (F : Fits w0 m h w) (hr : RetOK w0 m h' r e w') (ha : Above h h') (hv : r.val.lo h.next = true) : RetOK w0 m h r e w' := by
  obtain ⟨m', hx, F', hres⟩ := hr
  refine ⟨m, Ext.refl m, F.drop hx F' ha, ?_⟩
  rw [← F.len] at hv
  cases r with
  | ret v => obtain ⟨v', e1, e2⟩ := hres; exact ⟨v', e1, e2.back hx hv⟩
  | panic v => obtain ⟨v', e1, e2⟩ := hres; exact ⟨v', e1, e2.back hx hv⟩
end
theorem Says.drop {P : Program} {f : FuncId} {args : List AV} {h h' : AHeap} {r : ARes} (hs : Says P f args h r h') (ha : Above h h') (hv : r.val.lo h.next = true) : Says P f args h r h :=
  fun w0 m w args' hra F => Calls.keep (hs w0 m w args' hra F) fun _ _ hr => hr.drop F ha hv

mutual
theorem AV.scal_lo (n : Nat) : ∀ (x : AV), x.scal = true → x.lo n = true
  | .bool _, _ => rfl
  | .int _ _, _ => rfl
  | .str _ _, _ => rfl
  | .nilp, _ => rfl
  | .nsl, _ => rfl
  | .nmp, _ => rfl
  | .nfn, _ => rfl
  | .nifc, _ => rfl
  | .fn _ a b, h => by
    simp only [AV.scal, Bool.and_eq_true] at h
    simp only [AV.lo, Bool.and_eq_true]
    exact ⟨AV.scalL_lo n a h.1, AV.scalL_lo n b h.2⟩
  | .ifc _ v, h => by
    simp only [AV.scal] at h
    simp only [AV.lo]
    exact AV.scal_lo n v h
  | .agg l, h => by
    simp only [AV.scal] at h
    simp only [AV.lo]
    exact AV.scalL_lo n l h
  | .tup l, h => by
    simp only [AV.scal] at h
    simp only [AV.lo]
    exact AV.scalL_lo n l h
  | .ptr _ _, h => by simp [AV.scal] at h
  | .sl _ _ _ _, h => by simp [AV.scal] at h
  | .esl, h => by simp [AV.scal] at h
  | .mp _, h => by simp [AV.scal] at h
theorem AV.scalL_lo (n : Nat) : ∀ (l : List AV), AV.scalL l = true → AV.loL n l = true
  | [], _ => rfl
  | x :: l, h => by
    simp only [AV.scalL, Bool.and_eq_true] at h
    simp only [AV.loL, Bool.and_eq_true]
    exact ⟨AV.scal_lo n x h.1, AV.scalL_lo n l h.2⟩
end

open Classical in
/-- as it is, but that what was made and is not handed back is let go -/
def gcR (h : AHeap) (x : R) : R := match x with
  | some (r, h') => if Above h h' ∧ r.val.lo h.next = true then some (r, h) else some (r, h')
  | none => none
def gcF (s : FnT) : FnT := fun args h => gcR h (s args h)
theorem gcF_holds {P : Program} {f : FuncId} {s : FnT} (hs : Holds P f s) : Holds P f (gcF s) := by
  intro args h r h' e
  unfold gcF gcR at e
  split at e
  · rename_i r2 h2 e2
    split at e
    · rename_i hc
      simp only [Option.some.injEq, Prod.mk.injEq] at e
      obtain ⟨rfl, rfl⟩ := e
      exact (hs _ _ _ _ e2).drop hc.1 hc.2
    · simp only [Option.some.injEq, Prod.mk.injEq] at e
      obtain ⟨rfl, rfl⟩ := e
      exact hs _ _ _ _ e2
  · cases e
theorem gcR_same {h h' : AHeap} {r : ARes} (ha : Above h h') (hv : r.val.lo h.next = true) : gcR h (some (r, h')) = some (r, h) := by
  simp only [gcR, ha, hv, and_self, if_true]
/-- what comes of plain values -/
theorem gcR_scal {h h' : AHeap} {r : ARes} (ha : Above h h') (hv : r.val.scal = true) : gcR h (some (r, h')) = some (r, h) := gcR_same ha (AV.scal_lo _ _ hv)
theorem gcR_self {h : AHeap} {r : ARes} : gcR h (some (r, h)) = some (r, h) := by
  simp only [gcR]
  split <;> rfl
theorem gcR_some {h h' : AHeap} {r : ARes} (hv : r.val.lo h.next = false) : gcR h (some (r, h')) = some (r, h') := by
  simp only [gcR, hv, and_false, if_false, Bool.false_eq_true]
theorem gcR_none {h : AHeap} : gcR h none = none := rfl
/-- a call without arguments that is known -/
def constF (r : ARes) : FnT := fun args h => match args with
  | [] => some (r, h)
  | _ => none
theorem constF_holds {P : Program} {f : FuncId} {r : ARes} (hs : ∀ h, Says P f [] h r h) : Holds P f (constF r) := by
  intro args h r' h' e
  unfold constF at e
  split at e
  · simp only [Option.some.injEq, Prod.mk.injEq] at e
    obtain ⟨rfl, rfl⟩ := e
    exact hs h
  · cases e

/-! ### functions, put together: any number of levels -/
def iterW (f : CallF → CallF) : Nat → CallF
  | 0 => fun _ _ _ => none
  | d + 1 => f (iterW f d)
theorem iterW_ok {P : Program} {f : CallF → CallF} (hf : ∀ call, SaysAll P call → SaysAll P (f call)) : ∀ d, SaysAll P (iterW f d)
  | 0 => fun _ _ _ _ _ h => by cases h
  | d + 1 => hf _ (iterW_ok hf d)
theorem callOf_hit (g : FuncId) (s : FnT) (l : List (FuncId × FnT)) (args : List AV) (h : AHeap) : callOf ((g, s) :: l) g args h = s args h := by
  simp only [callOf, Nat.beq_refl]
/-- of a call with plain values: it returns true -/
theorem says_any {P : Program} {f : FuncId} {args : List AV} {args' : Array Value} {X : List Nat} {h' : AHeap} (hs : Says P f args ⟨0, X, .e⟩ (.ret (.bool true)) h') (hr : RelL [] args args'.toList) (W : World) :
    Calls P f args' W fun e W' => e = .returned (.bool true) ∧ Below W.heap.size W W' := by
  refine Calls.mono (hs W [] W args'.toList hr (fits_start W X)) ?_
  rintro e W' ⟨m', _, F, v', rfl, hv⟩
  cases hv
  exact ⟨rfl, F.below⟩
theorem rel_str (m : Map) (s : ByteArray) : Rel m (strA s.data.toList) (.string s) := .str s rfl rfl
end
end Go.Proofs.Ytpnccmlajhhpdaa.Abs
