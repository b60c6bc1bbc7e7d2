/- Functions, calls, panics; all the operations in one theorem. -/
import Derived.Test.YtpnccmlajhhpdaaAbs9
import Derived.KernelRfl
import Derived.Laws.Externs
import Derived.Lib.UnsafeStr
import Derived.Lib.MakeNoZero
import Derived.RangeFuncRecord
namespace Go.Proofs.Ytpnccmlajhhpdaa.Abs
noncomputable section
open Go.RowKit

/-! ### functions without a body -/
theorem gen_noEscape : (Extern.allGenericRows.lookup (Extern.AbiNoEscape.rows.headD default).1) = none := by kernel_rfl
theorem typed_noEscape : Extern.allTypedRows.lookup (Extern.AbiNoEscape.rows.headD default).1 = none := by kernel_rfl
theorem all_noEscape : Extern.allRows.lookup (Extern.AbiNoEscape.rows.headD default).1 = some Extern.AbiNoEscape.same := by kernel_rfl
theorem find_noEscape {fn : Func} (h : isRow Extern.AbiNoEscape.rows 0 fn.name = true) : Extern.find fn = some Extern.AbiNoEscape.same := by
  have e : fn.name = (Extern.AbiNoEscape.rows.headD default).1 := by
    unfold isRow at h
    split at h
    · rename_i n r hr
      have h := eq_of_beq h
      rw [← h]
      simp [Extern.AbiNoEscape.rows] at hr ⊢
      exact hr.1.symm
    · cases h
  unfold Extern.find
  simp only [e, gen_noEscape, typed_noEscape, all_noEscape, Option.map_none]
  rfl
theorem gen_indexByte : (Extern.allGenericRows.lookup (Extern.BytealgIndexByte.rows.getD 1 default).1) = none := by kernel_rfl
theorem typed_indexByte : Extern.allTypedRows.lookup (Extern.BytealgIndexByte.rows.getD 1 default).1 = none := by kernel_rfl
theorem all_indexByte : Extern.allRows.lookup (Extern.BytealgIndexByte.rows.getD 1 default).1 = some Extern.BytealgIndexByte.indexByte := by kernel_rfl
theorem find_indexByte {fn : Func} (h : isRow Extern.BytealgIndexByte.rows 1 fn.name = true) : Extern.find fn = some Extern.BytealgIndexByte.indexByte := by
  have e : fn.name = (Extern.BytealgIndexByte.rows.getD 1 default).1 := by
    unfold isRow at h
    split at h
    · rename_i n r hr
      have h := eq_of_beq h
      rw [← h]
      simp [Extern.BytealgIndexByte.rows] at hr ⊢
      exact hr.1.symm
    · cases h
  unfold Extern.find
  simp only [e, gen_indexByte, typed_indexByte, all_indexByte, Option.map_none]
  rfl
theorem gen_makeNoZero : (Extern.allGenericRows.lookup (Extern.BytealgMakeNoZero.typedRows.headD default).1) = none := by kernel_rfl
theorem typed_makeNoZero : Extern.allTypedRows.lookup (Extern.BytealgMakeNoZero.typedRows.headD default).1 = some Extern.BytealgMakeNoZero.makeNoZero := by kernel_rfl
theorem find_makeNoZero {fn : Func} (h : isMakeNoZero fn.name = true) : Extern.find fn = some (Extern.BytealgMakeNoZero.makeNoZero fn.params fn.resultTypes) := by
  have e : fn.name = (Extern.BytealgMakeNoZero.typedRows.headD default).1 := by
    have h : (_ == fn.name) = true := h
    exact (eq_of_beq h).symm
  unfold Extern.find
  simp only [e, gen_makeNoZero, typed_makeNoZero, Option.map_none, Option.map_some]
  rfl
theorem find_congr {α : Type} {p q : α → Bool} : ∀ (l : List α), (∀ x ∈ l, p x = q x) → l.find? p = l.find? q
  | [], _ => rfl
  | x :: l, h => by
    rw [List.find?_cons, List.find?_cons, h x (by simp), find_congr l (fun y hy => h y (by simp [hy]))]
theorem findByte_ok (c : Nat) (hc : c < 256) : ∀ (l : List UInt8) (i : Nat), findByte c l.length (enc l) i = ((List.range' i l.length).find? fun j => l[j - i]! == c.toUInt8)
  | [], i => by simp [findByte]
  | b :: l, i => by
    have hb : b.toNat < 256 := b.toNat_lt
    have e1 : enc (b :: l) % 256 = b.toNat := by rw [enc_cons]; omega
    have e2 : enc (b :: l) / 256 = enc l := by rw [enc_cons]; omega
    simp only [List.length_cons, findByte, e1, e2, List.range'_succ, List.find?_cons, Nat.sub_self]
    have e3 : ((b :: l)[0]! == c.toUInt8) = Nat.beq b.toNat c := by
      have : (b :: l)[0]! = b := rfl
      rw [this]
      by_cases h : b.toNat = c
      · subst h
        simp
      · rw [(Bool.eq_false_iff.2 (fun e => h (Nat.eq_of_beq_eq_true e)) : Nat.beq b.toNat c = false)]
        simp only [beq_eq_false_iff_ne, ne_eq]
        intro e
        apply h
        rw [e]
        simp only [Nat.toUInt8, UInt8.toNat_ofNat']
        omega
    rw [e3]
    split
    · rename_i h; rw [h]
    · rename_i h; rw [h]
      simp only
      rw [findByte_ok c hc l (i + 1)]
      refine find_congr _ ?_
      intro j hj
      have := List.mem_range'.1 hj
      obtain ⟨k, hk, rfl⟩ := this
      have e4 : i + 1 + 1 * k - i = k + 1 := by omega
      have e5 : i + 1 + 1 * k - (i + 1) = k := by omega
      rw [e4, e5]
      rfl

section
variable {P : Program} {m : Map} {w0 : Base} {w : World} {H H' : AHeap} {nx : ANext}
theorem run_sameAddr_apart {a b : Addr} {ca cb : Array Value} {ta tb : TypeId} {fa fb : Nat × Nat} (hne : a.block ≠ b.block) (ha : w.heap[a.block]? = some (.cells ca ta fa)) (hb : w.heap[b.block]? = some (.cells cb tb fb)) (za : w.frozen? a = false) (zb : w.frozen? b = false) (ya : w.frozen? ⟨a.block, ca.size, none⟩ = false) (yb : w.frozen? ⟨b.block, cb.size, none⟩ = false) :
    (sameAddr a b).run P w = .ok false w := by
  simp [sameAddr, hne, za, zb, ya, yb, ha, hb, noView, viewAt, World.shape?, mayBeOne, stringish]
theorem live_ok (F : Fits w0 m H w) {b o g s z : Nat} (hl : liveAt H b o = true) (hm : m[b]? = some (some (g, s, z))) : ∃ ob c t fz, H.get b = some ob ∧ ob.alive = true ∧ w.heap[g]? = some (.cells c t fz) ∧ w.frozen? ⟨g, s + o, none⟩ = false ∧ w.frozen? ⟨g, c.size, none⟩ = false := by
  unfold liveAt at hl
  split at hl
  · rename_i n t e hb
    rw [Bool.and_eq_true] at hl
    have ho : o < n := Nat.le_of_ble_eq_true hl.1
    obtain ⟨_, c, fz, hc, hz, hsz, hfz, _⟩ := F.row b n t e g s z hb hm
    obtain ⟨⟨rfl, rfl⟩, hun⟩ := F.exact b n t e g s z hb hm hl.2
    have hno : ∀ i, i ≤ z → w.frozen? ⟨g, i, none⟩ = false := fun i hi => by
      have : ¬ (fz.1 ≤ i ∧ i < fz.2) := by
        rcases Nat.lt_or_ge i z with h1 | h1
        · exact hfz i h1
        · have : i = z := by omega
          subst this
          exact hun c e fz hc
      simp only [World.frozen?, hc]
      by_cases h1 : fz.1 ≤ i
      · have h2 : ¬ i < fz.2 := fun h2 => this ⟨h1, h2⟩
        simp [h2]
      · simp [h1]
    exact ⟨_, c, e, fz, hb, rfl, hc, hno _ (by omega), hno _ (by omega)⟩
  · cases hl
theorem apart_ok (F : Fits w0 m H w) (op : BinOp) (t : TypeId) (px py : Operand) {x y : AV} {x' y' : Value} (hx : Rel m x x') (hy : Rel m y y') (ha : apartPtr P H t x y = true) (h : (match op with
    | .eql => some (ANext.val (.bool false), H)
    | .neq => some (.val (.bool true), H)
    | _ => none) = some (nx, H')) : PureOK m w H nx H' ((do eqGuard op t px py x' y'; binOp op t x' y').run P w) := by
  unfold apartPtr at ha
  split at ha
  · rename_i b o b' o'
    simp only [Bool.and_eq_true, Bool.not_eq_true'] at ha
    obtain ⟨h1, h2, h3, h4⟩ := ha
    cases hx with | @ptr _ _ g s z hm =>
    cases hy with | @ptr _ _ g' s' z' hm' =>
    obtain ⟨ob, c, ty, fz, a1, a2, a3, a4, a5⟩ := live_ok F h2 hm
    obtain ⟨ob', c', ty', fz', b1, b2, b3, b4, b5⟩ := live_ok F h3 hm'
    have hbb : b ≠ b' := fun e => by rw [e, Nat.beq_refl] at h1; cases h1
    have hgg : g ≠ g' := fun e => by
      subst e
      exact F.sep b b' ob ob' g s z s' z' hbb a1 b1 a2 b2 hm hm'
    unfold ptrBig at h4
    split at h4
    · rename_i e hu
      split at h4
      · rename_i i hi
        have hsz : i.size ≠ 0 := fun e => by rw [e] at h4; cases h4
        have hsa := run_sameAddr_apart (P := P) (a := ⟨g, s + o, none⟩) (b := ⟨g', s' + o', none⟩) hgg a3 b3 a4 b4 a5 b5
        have he : ∀ d : Nat, (Op.equalIn (d + 1) t (.pointer (some ⟨g, s + o, none⟩)) (.pointer (some ⟨g', s' + o', none⟩))).run P w = .ok false w := fun d => by
          simp [Op.equalIn, run_underlying hu, sizeOf, typeInfo, hi, hsz, hsa]
        have hg : ∀ op, (eqGuard op t px py (.pointer (some ⟨g, s + o, none⟩)) (.pointer (some ⟨g', s' + o', none⟩))).run P w = .ok () w := fun op =>
          eqGuard_plain op t px py _ _ (fun l e => by cases e) (.inl (fun e => by cases e)) w
        split at h
        · refine val_ok (v' := .bool false) h ?_ (.bool false)
          rw [Sem.run_bind, hg, Result.andThen_ok]
          simp only [binOp]
          simp [Op.equal, Op.maxDepth, he 9999]
        · refine val_ok (v' := .bool true) h ?_ (.bool true)
          rw [Sem.run_bind, hg, Result.andThen_ok]
          simp only [binOp]
          simp [Op.equal, Op.maxDepth, he 9999]
        · cases h
      · cases h4
    · cases h4
  · cases ha
end
section
variable {P : Program} {m : Map} {w0 : Base} {w : World} {H H' : AHeap} {nx : ANext}

theorem RelL.arr {l : List AV} {a : Array Value} (h : RelL m l a.toList) : ∃ l', a = ⟨l'⟩ ∧ RelL m l l' := ⟨a.toList, by simp, h⟩
theorem PureOK.op {s : Sem Value} (F : Fits w0 m H w) (h : PureOK m w H nx H' (s.run P w)) : OpPost w0 m H' nx ((do pure (Next.value (← s)) : Sem Next).run P w) := (PureOK.post F h).op
theorem unit_op {s : Sem Unit} (h : ∃ w', nx = .skip ∧ Fits w0 m H' w' ∧ s.run P w = .ok () w') : OpPost w0 m H' nx ((do s; pure .skip : Sem Next).run P w) := by
  obtain ⟨w', rfl, F, hr⟩ := h
  exact ⟨m, w', Ext.refl m, F, by simp [OutRel, hr]⟩
theorem makeFunc_ok {ρ : RhoT} {ρ' : Operand → Value} {fn : Fn} {first captured : Array Operand} (hr : ∀ x ∈ first.toList ++ captured.toList, ∀ v, ρ x = some v → Rel m v (ρ' x)) (h : opMakeFunc ρ H fn first captured = some (nx, H')) : PureOK m w H nx H' ((Instr.makeFunc fn (first.map ρ') (captured.map ρ')).run P w) := by
  unfold opMakeFunc at h
  split at h
  · split at h
    · rename_i a b ha hb
      have h1 := args_ok (m := m) _ a (fun x hx => hr x (List.mem_append_left _ hx)) ha
      have h2 := args_ok (m := m) _ b (fun x hx => hr x (List.mem_append_right _ hx)) hb
      refine val_ok h (v' := .func (.func _) ⟨first.toList.map ρ'⟩ ⟨captured.toList.map ρ'⟩) ?_ (.fn h1 h2)
      simp only [Instr.makeFunc, Sem.run_pure]
      congr 2 <;> (apply Array.ext'; simp)
    · cases h
  · cases h
theorem hasBody_ok {f : FuncId} (h : hasBody P f = true) (args : Array Value) (w : World) : (callFunc f args).run P w = .ok (.enter f args) w := by
  unfold hasBody at h
  split at h
  · rename_i fn hf
    simp only [Bool.and_eq_true, Bool.not_eq_true'] at h
    obtain ⟨c, hc⟩ := Option.isSome_iff_exists.1 h.1
    exact Go.MuLone.run_callFunc_enter hf h.2 hc args w
  · cases h
theorem externA_ok {f : FuncId} {args : List AV} {args' : List Value} (hr : RelL m args args') (h : externA P H f args = some (nx, H')) : ∃ v v', nx = .val v ∧ H' = H ∧ (callFunc f ⟨args'⟩).run P w = .ok (.value v') w ∧ Rel m v v' := by
  unfold externA at h
  split at h
  · rename_i fn hf
    split at h
    · rename_i hc
      obtain ⟨h1, h2, h3⟩ := hc
      have h3 : Extern.findNext fn = none := by simpa using h3
      unfold externV at h
      split at h
      · split at h
        · rename_i hrow
          simp only [Option.some.injEq, Prod.mk.injEq] at h
          obtain ⟨rfl, rfl⟩ := h
          cases hr with | @cons _ y _ _ hx hr =>
          cases hr
          refine ⟨_, y, rfl, rfl, ?_, hx⟩
          rw [run_callFunc_extern hf h2 h1 h3 (find_noEscape hrow)]
          rfl
        · cases h
      · rename_i n v c
        split at h
        · rename_i hc2
          obtain ⟨hrow, hlt⟩ := hc2
          have hlt := blt_lt hlt
          cases hr with | cons hx hr =>
          cases hr with | cons hy hr =>
          cases hr
          cases hx with | str s e1 e2 =>
          have := rel_int hy
          subst this
          have hrun : (callFunc f ⟨[.string s, .int .u8 (Int.ofNat c)]⟩).run P w = .ok (.value (.int .i64 (firstIdx s c.toUInt8))) w := by
            rw [run_callFunc_extern hf h2 h1 h3 (find_indexByte hrow)]
            have := run_indexByte_string (P := P) s (Int.ofNat c) w
            rw [this]
            rfl
          have hfb := findByte_ok c hlt s.data.toList 0
          rw [e1, e2] at hfb
          have hidx : firstIdx s c.toUInt8 = (match findByte c n v 0 with
              | some i => (i : Int)
              | none => -1) := by
            unfold firstIdx
            rw [hfb]
            have : (List.range s.size).find? (fun i => s[i]! == c.toUInt8) = (List.range' 0 n).find? (fun j => s.data.toList[j - 0]! == c.toUInt8) := by
              rw [List.range_eq_range', size_bytes, e1]
              refine find_congr _ ?_
              intro j hj
              have := List.mem_range'.1 hj
              obtain ⟨k, hk, rfl⟩ := this
              have hk' : k < s.size := by rw [size_bytes, e1]; exact hk
              have hk2 : k < s.data.toList.length := by rw [e1]; exact hk
              have a1 : s[0 + 1 * k]! = s.data.toList[k] := by
                have : 0 + 1 * k = k := by omega
                rw [this, getElem!_pos s k hk']
                rfl
              have a2 : s.data.toList[0 + 1 * k - 0]! = s.data.toList[k] := by
                have : 0 + 1 * k - 0 = k := by omega
                rw [this, getElem!_pos s.data.toList k hk2]
              rw [a1, a2]
            rw [this]
            generalize (List.range' 0 n).find? (fun j => s.data.toList[j - 0]! == c.toUInt8) = q
            cases q <;> rfl
          split at h
          · rename_i i hi
            simp only [Option.some.injEq, Prod.mk.injEq] at h
            obtain ⟨rfl, rfl⟩ := h
            refine ⟨_, _, rfl, rfl, hrun, ?_⟩
            rw [hidx, hi]
            exact .int .i64 _
          · rename_i hi
            simp only [Option.some.injEq, Prod.mk.injEq] at h
            obtain ⟨rfl, rfl⟩ := h
            refine ⟨_, _, rfl, rfl, hrun, ?_⟩
            rw [hidx, hi]
            exact .int .i64 _
        · cases h
      · cases h
    · cases h
  · cases h

/-! ### unsafe.SliceData, unsafe.String -/
theorem sliceData_ok {x : AV} {x' : Value} (hx : Rel m x x') (ts : Array TypeId) (ty : TypeId) (h : opSliceData H x = some (nx, H')) : PureOK m w H nx H' ((Builtin.unsafeSliceData_ ts ty #[x']).run P w) := by
  unfold opSliceData at h
  split at h
  · rename_i b o n sz
    cases hx with | @sl _ _ _ _ cap g s z hm hn hz =>
    exact val_ok h (Lib.run_unsafeSliceData_row w ts ty _ _ _ (by omega)) (.ptr hm)
  · cases hx
    exact val_ok h (Lib.run_unsafeSliceData_nil w ts ty 0 0) .nilp
  · cases h
theorem liesAt_bytes_at {e : TypeId} (hc : P.cellsOf e = 1) (count off n : Nat) (hn : off + n ≤ count) : liesAt P P.depth e count off e n = true := by
  have hd : P.depth = (2 * (P.types.size + Made.depth) + 1) + 1 := rfl
  rw [hd]
  simp only [liesAt, Bool.or_eq_true]
  left
  rw [hd]
  simp [rowAt, hc, hn, sameLayout, Nat.mod_one]
theorem run_unsafeString_at (w : World) (pt it ty e : TypeId) (hp : P.underlying pt = some (.pointer e)) (hc : P.cellsOf e = 1) (g off cells : Nat) (hsh : w.shape? g = some (e, cells)) (l : List UInt8) (h0 : l ≠ []) (hn : off + l.length ≤ cells) (h63 : l.length ≤ 9223372036854775807)
    (k : IntKind) (hcell : ∀ j x, l[j]? = some x → w.cell? ((⟨g, off, none⟩ : Addr).add j) = some (.int .u8 x.toNat)) :
    (Builtin.unsafeString_ #[pt, it] ty #[.pointer (some ⟨g, off, none⟩), .int k l.length]).run P w = .ok (.string ⟨l.toArray⟩) (w.freeze ⟨g, off, none⟩ l.length) := by
  have hl : l.length ≠ 0 := by simpa using h0
  have hlb := Lib.run_loadBytes (P := P) w l ⟨g, off, none⟩ .empty hcell
  have hlies := liesAt_bytes_at (P := P) hc (cells / P.cellsOf e) off l.length (by rw [hc]; simpa using hn)
  have h63' : ¬ (9223372036854775807 : Int) < (l.length : Int) := by omega
  have hdef : Builtin.unsafeString_ #[pt, it] ty #[.pointer (some ⟨g, off, none⟩), .int k l.length] =
      (do
        let n ← asInt (.int k l.length)
        if n < 0 then runtimePanic (.error "unsafe.String: len out of range")
        if n > IntKind.i64.max then unsupported (.unsafePointer "String: a length above the largest int")
        if n = 0 then pure (.string .empty)
        else if ← variablesAt ⟨g, off, none⟩ (← Go.elemOf pt) n.toNat then do
          let s ← loadBytes ⟨g, off, none⟩ .empty n.toNat
          freeze ⟨g, off, none⟩ n.toNat
          pure (.string s)
        else unsupported (.unsafePointer "String: not so many bytes at ptr")) := rfl
  rw [hdef]
  have hmax : IntKind.i64.max = 9223372036854775807 := rfl
  have hneg : ¬ (l.length : Int) < 0 := by omega
  simp [asInt, asIntOf, hmax, h63', hneg, hl, variablesAt, hsh, Go.elemOf, run_underlying hp, hlies, hlb]
theorem freeze_size (w : World) (p : Addr) (n : Nat) : w.heap.size ≤ (w.freeze p n).heap.size := by
  unfold World.freeze
  split
  · exact Nat.le_refl _
  · simp
theorem freeze_other (w : World) (p : Addr) (n k : Nat) (h : k ≠ p.block) : (w.freeze p n).heap[k]? = w.heap[k]? := by
  unfold World.freeze
  split
  · rfl
  · simp only [Array.getElem?_modify]
    rw [if_neg (fun e => h e.symm)]
/-- a row that is dead may turn -/
theorem Fits.gone (F : Fits w0 m H w) {b n g s z : Nat} {t : T AV} {e : TypeId} {w' : World} (hrow : H.get b = some (.row n t e)) (hm : m[b]? = some (some (g, s, z))) (hb : Below w0.heap.size w0.w w') (hk : ∀ k, k ≠ g → w'.heap[k]? = w.heap[k]?) (hz : w.heap.size ≤ w'.heap.size) : Fits w0 m (H.put b .dead) w' := by
  refine (F.kill (F.lt_next hrow)).world hb (fun b' o' g' s' z' h1 h2 h3 => hk g' (fun eg => ?_)) (fun k o hp => hk k (fun e => (F.pin k o hp).2 b _ s z hrow rfl (by rw [e]; exact hm))) hz
  subst eg
  by_cases eb : b = b'
  · subst eb; rw [get_put_same] at h1; cases h1; cases h2
  · rw [get_put_other _ eb] at h1
    exact F.sep b b' _ o' g' s z s' z' eb hrow h1 rfl h2 hm h3
theorem unsafeStr_ok (F : Fits w0 m H w) {pt it ty : TypeId} {x y : AV} {x' y' : Value} (hx : Rel m x x') (hy : Rel m y y') (h : opUnsafeStr P H pt x y = some (nx, H')) : ValPost w0 m H' nx ((Builtin.unsafeString_ #[pt, it] ty #[x', y']).run P w) := by
  have hnone0 : ∀ (q : Option Addr) (k : IntKind), (Builtin.unsafeString_ #[pt, it] ty #[.pointer q, .int k 0]).run P w = .ok (.string .empty) w := fun q k => Lib.run_unsafeString_none w pt it ty q
  unfold opUnsafeStr at h
  split at h
  · have := rel_int hy; subst this
    cases hx
    exact PureOK.post F (val_ok h (hnone0 _ _) (.str _ rfl rfl))
  · have := rel_int hy; subst this
    cases hx
    exact PureOK.post F (val_ok h (hnone0 _ _) (.str _ rfl rfl))
  · rename_i b o k n
    have := rel_int hy; subst this
    cases hx with | @ptr _ _ g s z hm =>
    split at h
    · rename_i e cs e' hp hcs he'
      split at h
      · rename_i hc
        obtain ⟨h1, h2, h3⟩ := hc
        have h1 := Nat.eq_of_beq_eq_true h1
        have h2 := Nat.eq_of_beq_eq_true h2
        have h3 := Nat.le_of_ble_eq_true h3
        subst h1
        split at h
        · rename_i q v hb
          simp only [Option.some.injEq, Prod.mk.injEq] at h
          obtain ⟨rfl, rfl⟩ := h
          obtain ⟨l', r1, r2, r3, r4⟩ := rowGet_ok F hm hcs
          obtain ⟨l, rfl, r5, r6⟩ := bytesA_ok _ _ q v r1 hb
          have hln : l.length = n + 1 := by rw [← r2]; simp [byteCells]
          have hrow : ∃ N t, H.get b = some (.row N t e') := by
            unfold rowType at he'
            split at he'
            · rename_i N t e2 hr
              simp only [Option.some.injEq] at he'; subst he'
              exact ⟨N, t, hr⟩
            · cases he'
          obtain ⟨N, t, hrow⟩ := hrow
          obtain ⟨hB, c, fz, hheap, hz, hsz, _, hnone, _⟩ := F.row b N t e' g s z hrow hm
          have hbound : s + o + l.length ≤ z := by
            have hget : rowGet H b o (n + 1) = some cs := hcs
            unfold rowGet at hget
            rw [hrow] at hget
            simp only at hget
            obtain ⟨hl, hg⟩ := T.take_some t (n + 1) o cs hget
            have hlast : o + n < N := by
              rcases Nat.lt_or_ge (o + n) N with h' | h'
              · exact h'
              · have e1 := hnone _ h'
                have e2 := hg n (by omega)
                rw [e1, List.getElem?_eq_getElem (by omega)] at e2
                cases e2
            omega
          have hsh : w.shape? g = some (e', z) := by simp [World.shape?, hheap, hz]
          have hcell : ∀ j x, l[j]? = some x → w.cell? ((⟨g, s + o, none⟩ : Addr).add j) = some (.int .u8 x.toNat) := by
            intro j x hj
            rw [Addr.add_mid]
            exact r3 j _ (by simp [byteCells, hj])
          have hrun := run_unsafeString_at w pt it ty e' hp h2 g (s + o) z hsh l (fun e => by rw [e] at hln; simp at hln) hbound (by omega) k hcell
          have hcast : ((n + 1 : Nat) : Int) = (l.length : Int) := by omega
          refine ⟨m, _, _, .string ⟨l.toArray⟩, Ext.refl m, F.gone hrow hm (Lib.below_freeze F.below (p := ⟨g, s + o, none⟩) hB l.length) (fun k hk => freeze_other w _ _ k hk) (freeze_size w _ _), rfl, ?_, .str _ (by simpa using r5) (by simpa using r6)⟩
          change (Builtin.unsafeString_ #[pt, it] ty #[.pointer (some ⟨g, s + o, Option.none⟩), .int k ((n + 1 : Nat) : Int)]).run P w = _
          rw [hcast]
          exact hrun
        · cases h
      · cases h
    · cases h
  · cases h
theorem gen_clone : (Extern.allGenericRows.lookup (Extern.MapsClone.rows.headD default).1) = none := by kernel_rfl
theorem typed_clone : Extern.allTypedRows.lookup (Extern.MapsClone.rows.headD default).1 = none := by kernel_rfl
theorem all_clone : Extern.allRows.lookup (Extern.MapsClone.rows.headD default).1 = some Extern.MapsClone.clone := by kernel_rfl
theorem find_clone {fn : Func} (h : isMapsClone fn.name = true) : Extern.find fn = some Extern.MapsClone.clone := by
  have e : fn.name = (Extern.MapsClone.rows.headD default).1 := by
    unfold isMapsClone isRow at h
    split at h
    · rename_i n r hr
      have h := eq_of_beq h
      rw [← h]
      simp [Extern.MapsClone.rows] at hr ⊢
      exact hr.1.symm
    · cases h
  unfold Extern.find
  simp only [e, gen_clone, typed_clone, all_clone, Option.map_none]
  rfl
theorem cloneM_ok (F : Fits w0 m H w) {f : FuncId} {fn : Func} (hf : P.funcs[f]? = some fn) (h1 : fn.body.isNone = true) (h2 : (fn.name == "runtime.NumGoroutine") = false) (h3 : Extern.findNext fn = none) (h4 : isMapsClone fn.name = true) {args : List AV} {args' : List Value} (hr : RelL m args args') (h : cloneM H args = some (nx, H')) :
    ∃ m' w' v v', Ext m m' ∧ Fits w0 m' H' w' ∧ nx = .val v ∧ (callFunc f ⟨args'⟩).run P w = .ok (.value v') w' ∧ Rel m' v v' := by
  unfold cloneM at h
  split at h
  · rename_i t b
    split at h
    · rename_i es hb
      simp only [Option.some.injEq, Prod.mk.injEq] at h
      obtain ⟨rfl, rfl⟩ := h
      cases hr with | cons hi hr =>
      cases hr
      cases hi with | ifc hi =>
      cases hi with | @mp _ g hm =>
      obtain ⟨_, _, _, es', clock, hheap, hrel⟩ := F.map b es _ _ _ hb hm
      have Fa := F.alloc (.map es' clock)
      have hgo := run_getObj_map (P := P) hheap
      refine ⟨_, w.alloc (.map es' clock), _, .iface t (.map (some w.heap.size)), Ext.append m _, Fa.new (.map es) (g := w.heap.size) (s := 0) (z := 0) (fun b o' s' z' h1 h2 h3 => ?_) (fun n t e he => by cases he) (fun es2 he => ?_) (fun n t e he => by cases he) (hpin := fun k o' hk _ => by have := heap_lt (F.pin k o' hk).1; omega), rfl, ?_, ?_⟩
      · have := F.mapped_lt h1 h2 h3; omega
      · cases he
        exact ⟨rfl, rfl, F.size, es', clock, heap_alloc_new w _, hrel.mono (Map.le_append m _)⟩
      · rw [run_callFunc_extern hf h2 h1 h3 (find_clone h4)]
        have hdef : Extern.MapsClone.clone #[.iface t (.map (some g))] = (do
            let .map entries clock ← getObj g | stuck "maps.clone: a map expected"
            pure (.iface t (.map (some (← newObj (.map entries clock)))))) := rfl
        rw [show (⟨[Value.iface t (.map (some g))]⟩ : Array Value) = #[.iface t (.map (some g))] from rfl, hdef]
        simp [hgo]
      · exact .ifc (.mp (map_new F _))
    · cases h
  · cases h
theorem externM_ok (F : Fits w0 m H w) {f : FuncId} {args : List AV} {args' : List Value} (hr : RelL m args args') (h : externM P H f args = some (nx, H')) :
    ∃ m' w' v v', Ext m m' ∧ Fits w0 m' H' w' ∧ nx = .val v ∧ (callFunc f ⟨args'⟩).run P w = .ok (.value v') w' ∧ Rel m' v v' := by
  unfold externM at h
  split at h
  · rename_i fn hf
    split at h
    · rename_i hc
      obtain ⟨h1, h2, h3⟩ := hc
      have h3 : Extern.findNext fn = none := by simpa using h3
      split at h
      case isFalse =>
        split at h
        · rename_i h4
          exact cloneM_ok F hf h1 h2 h3 h4 hr h
        · cases h
      rename_i h4
      unfold makeZ at h
      split at h
      · rename_i n
        split at h
        · rename_i t ht
          split at h
          · rename_i e he
            split at h
            · rename_i hn
              obtain ⟨hn, hx⟩ := hn
              have hn := Nat.le_of_ble_eq_true hn
              simp only [Option.some.injEq, Prod.mk.injEq] at h
              obtain ⟨rfl, rfl⟩ := h
              cases hr with | cons hi hr =>
              cases hr
              have := rel_int hi
              subst this
              obtain ⟨cs, hrun, hle, _⟩ := Lib.run_makeNoZero (P := P) w fn.params t e (elemOf_ok he) n (by omega)
              have hdef : ∀ res : Array TypeId, Extern.BytealgMakeNoZero.makeNoZero fn.params res #[.int .i64 (n : Int)] = (do
                  let some t := res[0]? | stuck "bytealg.MakeNoZero: no result type"
                  let .slice elem ← underlying t | stuck "bytealg.MakeNoZero: slice type expected"
                  if (n : Int) < 0 || (n : Int) > 2 ^ 48 then runtimePanic (.error "makeslice: len out of range")
                  let cap ← choose (.appendCap (n : Int).toNat 0 elem)
                  askRoom cap
                  let bytes ← choose (.extern "internal/bytealg.MakeNoZero.bytes" 0)
                  let a ← newRow elem (Extern.BytealgMakeNoZero.digits cap bytes #[])
                  pure (.slice (some a) (n : Int).toNat cap)) := fun _ => rfl
              have hdo : Extern.BytealgMakeNoZero.makeNoZero fn.params fn.resultTypes #[.int .i64 (n : Int)] = Extern.BytealgMakeNoZero.makeNoZero fn.params #[t] #[.int .i64 (n : Int)] := by
                rw [hdef, hdef, ht]
                rfl
              have hcall : (callFunc f ⟨[.int .i64 (Int.ofNat n)]⟩).run P w = .ok (.value (.slice (some ⟨w.heap.size, 0, none⟩) n cs.size)) (w.drew.drew.alloc (.cells cs e)) := by
                rw [run_callFunc_extern hf h2 h1 h3 (find_makeNoZero h4)]
                rw [show (⟨[Value.int .i64 (Int.ofNat n)]⟩ : Array Value) = #[.int .i64 (n : Int)] from rfl, hdo, hrun]
                rfl
              have Fa := (F.drew.drew).alloc (.cells cs e)
              have hmap : (m ++ [some (w.heap.size, 0, cs.size)])[H.next]? = some (some (w.heap.size, 0, cs.size)) := map_new F _
              refine ⟨m ++ [some (w.heap.size, 0, cs.size)], _, _, _, Ext.append m _, ?_, rfl, hcall, .sl hmap hle (by omega)⟩
              refine Fa.new (rowOf [] e) ?_ ?_ (fun es h => by unfold rowOf at h; cases h) ?_ (hpin := fun k o' hk _ => by have := heap_lt (F.pin k o' hk).1; omega)
              · intro b o' s' z' hb ho hm
                have := F.mapped_lt hb ho hm
                omega
              · intro n' t' e' h
                unfold rowOf at h
                cases h
                refine ⟨F.size, cs, (0, 0), heap_alloc_new w.drew.drew _, rfl, Nat.zero_le _, fun i _ => by simp, fun i _ => T.get_e i, fun i hi => absurd hi (Nat.not_lt_zero i)⟩
              · intro n' t' e' h hex
                unfold rowOf at h
                cases h
                rw [hx] at hex; cases hex
            · cases h
          · cases h
        · cases h
      · cases h
    · cases h
  · cases h
theorem builtin_ok (F : Fits w0 m H w) {b : Builtin} {ts : Array TypeId} {ty : TypeId} {cs : Array Bool} {args : List AV} {args' : List Value} (hr : RelL m args args') (h : builtinA P b ts args H = some (nx, H')) : OpPost w0 m H' nx ((Go.builtin b ts ty cs ⟨args'⟩).run P w) := by
  have hts : ∀ {t : TypeId} {l : List TypeId}, ts.toList = t :: l → ts[0]? = some t := by
    intro t l e; rw [← Array.getElem?_toList, e]; rfl
  have hts1 : ∀ {t u : TypeId} {l : List TypeId}, ts.toList = t :: u :: l → ts[1]? = some u := by
    intro t u l e; rw [← Array.getElem?_toList, e]; rfl
  unfold builtinA at h
  split at h
  · split at h
    · rename_i x t l e
      cases hr with | cons hx hr =>
      cases hr
      exact (len_ok F hx ts ty (hts e) h).op F
    · cases h
  · split at h
    · rename_i s x t u l e
      cases hr with | cons hx hr =>
      cases hr with | cons hy hr =>
      cases hr
      exact (append_ok F hx hy ts ty (hts e) (hts1 e) h).op
    · cases h
  · split at h
    · rename_i d s t l e
      cases hr with | cons hx hr =>
      cases hr with | cons hy hr =>
      cases hr
      exact (copy_ok F hx hy ts ty (hts e) h).op
    · cases h
  · split at h
    · rename_i x t l e
      cases hr with | cons hx hr =>
      cases hr
      exact (clear_ok F hx ts ty (hts e) h).op
    · cases h
  · split at h
    · rename_i m k t l e
      cases hr with | cons hx hr =>
      cases hr with | cons hy hr =>
      cases hr
      exact (delete_ok F hx hy ts ty (hts e) h).op
    · cases h
  · split at h
    · rename_i k a rest
      cases hr with | cons hx hr =>
      have := rel_int hx; subst this
      refine PureOK.op F (s := Builtin.max_ ts ty _) ?_
      unfold outV at h
      split at h
      · rename_i v hv
        obtain ⟨v', h1, h2⟩ := maxInts_ok (P := P) (w := w) k _ _ a v hr hv
        exact val_ok h h1 h2
      · cases h
    · cases h
  · split at h
    · rename_i k a rest
      cases hr with | cons hx hr =>
      have := rel_int hx; subst this
      refine PureOK.op F (s := Builtin.min_ ts ty _) ?_
      unfold outV at h
      split at h
      · rename_i v hv
        obtain ⟨v', h1, h2⟩ := minInts_ok (P := P) (w := w) k _ _ a v hr hv
        exact val_ok h h1 h2
      · cases h
    · cases h
  · split at h
    · rename_i t v
      cases hr with | cons hx hr =>
      cases hr
      simp only [Option.some.injEq, Prod.mk.injEq] at h
      obtain ⟨rfl, rfl⟩ := h
      cases hx with | @ifc _ _ v' hv =>
      exact ⟨m, w, Ext.refl m, F, .iface t v', by simp [Go.builtin, Instr.panic], .ifc hv⟩
    · cases h
  · split at h
    · rename_i x
      cases hr with | cons hx hr =>
      cases hr
      exact (sliceData_ok hx ts ty h).op F
    · cases h
  · split at h
    · rename_i x n pt it e
      cases hr with | cons hx hr =>
      cases hr with | cons hy hr =>
      cases hr
      have ets : ts = #[pt, it] := by apply Array.ext'; simpa using e
      subst ets
      exact (unsafeStr_ok F hx hy h).op
    · cases h
  · split at h
    · rename_i t l e
      split at h
      · rename_i el hel
        cases hr with | cons hx hr =>
        cases hr
        cases hx
        simp only [Option.some.injEq, Prod.mk.injEq] at h
        obtain ⟨rfl, rfl⟩ := h
        refine PureOK.op F (s := Builtin.cap_ ts ty _) ?_
        exact ⟨_, .int .i64 0, rfl, rfl, by simp [Builtin.cap_, hts e, run_underlying (elemOf_ok hel), goInt], .int .i64 _⟩
      · cases h
    · cases h
  · cases h
theorem argsA_map {ρ : RhoT} {ρ' : Operand → Value} {args : Array Operand} {as : List AV} (hr : ∀ x ∈ args.toList, ∀ v, ρ x = some v → Rel m v (ρ' x)) (h : argsA ρ args.toList = some as) : args.map ρ' = ⟨args.toList.map ρ'⟩ ∧ RelL m as (args.toList.map ρ') :=
  ⟨by apply Array.ext'; simp, args_ok _ as hr h⟩
theorem call_ok (F : Fits w0 m H w) {ρ : RhoT} {ρ' : Operand → Value} {c : Call} {ty : TypeId} (hr : ∀ x ∈ c.operands.toList, ∀ v, ρ x = some v → Rel m v (ρ' x)) (h : opCall P ρ H c = some (nx, H')) : OpPost w0 m H' nx ((do let d ← resolve ρ' c ty; invoke d.target d.args : Sem Next).run P w) := by
  unfold opCall at h
  split at h
  · rename_i args ha
    obtain ⟨he, hra⟩ := argsA_map (m := m) (ρ' := ρ') (fun x hx => hr x (by simp only [Call.operands]; simp [hx])) ha
    split at h
    · rename_i b hb
      have := builtin_ok (ty := ty) (cs := c.args.map fun | .const _ => true | _ => false) F hra h
      simp only [resolve, hb, he, Sem.run_bind, Sem.run_pure, Result.andThen_ok, invoke]
      exact this
    · cases h
    · rename_i f hf
      unfold callV at h
      split at h
      · rename_i g a b e
        split at h
        · rename_i hbody
          simp only [Option.some.injEq, Prod.mk.injEq] at h
          obtain ⟨rfl, rfl⟩ := h
          have hrf := hr f (by simp [Call.operands, hf]) _ e
          generalize hv : ρ' f = vf at hrf
          cases hrf with | @fn _ _ _ l' c' h1 h2 =>
          refine ⟨m, w, Ext.refl m, F, l' ++ c.args.toList.map ρ' ++ c', ?_, (h1.append hra).append h2⟩
          simp only [resolve, hf, he, hv, Deferred.ofValue, Sem.run_bind, Sem.run_pure, Result.andThen_ok, invoke]
          have : (⟨l'⟩ ++ ⟨c.args.toList.map ρ'⟩ ++ ⟨c'⟩ : Array Value) = ⟨l' ++ c.args.toList.map ρ' ++ c'⟩ := by simp
          rw [this]
          exact hasBody_ok hbody _ w
        · split at h
          · have hrf := hr f (by simp [Call.operands, hf]) _ e
            generalize hv : ρ' f = vf at hrf
            cases hrf with | @fn _ _ _ l' c' h1 h2 =>
            obtain ⟨m', w', v, v', hx, F', rfl, hrun, hvr⟩ := externM_ok (P := P) F ((h1.append hra).append h2) h
            refine ⟨m', w', hx, F', v', ?_, hvr⟩
            simp only [resolve, hf, he, hv, Deferred.ofValue, Sem.run_bind, Sem.run_pure, Result.andThen_ok, invoke]
            have : (⟨l'⟩ ++ ⟨c.args.toList.map ρ'⟩ ++ ⟨c'⟩ : Array Value) = ⟨l' ++ c.args.toList.map ρ' ++ c'⟩ := by simp
            rw [this]
            exact hrun
          have hrf := hr f (by simp [Call.operands, hf]) _ e
          generalize hv : ρ' f = vf at hrf
          cases hrf with | @fn _ _ _ l' c' h1 h2 =>
          obtain ⟨v, v', rfl, rfl, hrun, hvr⟩ := externA_ok (P := P) (w := w) ((h1.append hra).append h2) h
          refine ⟨m, w, Ext.refl m, F, v', ?_, hvr⟩
          simp only [resolve, hf, he, hv, Deferred.ofValue, Sem.run_bind, Sem.run_pure, Result.andThen_ok, invoke]
          have : (⟨l'⟩ ++ ⟨c.args.toList.map ρ'⟩ ++ ⟨c'⟩ : Array Value) = ⟨l' ++ c.args.toList.map ρ' ++ c'⟩ := by simp
          rw [this]
          exact hrun
      · rename_i b e
        unfold yieldV at h
        split at h
        · rename_i r hb
          split at h
          · rename_i hlen
            simp only [Option.some.injEq, Prod.mk.injEq] at h
            obtain ⟨rfl, rfl⟩ := h
            have hrf := hr f (by simp [Call.operands, hf]) _ e
            generalize hv : ρ' f = vf at hrf
            cases hrf with | @yld _ g hm =>
            obtain ⟨_, _, _, r', h1, h2, h3, h4, h5, h6, h7, h8, h9⟩ := F.obj _ _ _ _ _ hb hm
            have hlen := Nat.eq_of_beq_eq_true hlen
            refine ⟨m, w, Ext.refl m, F, g, r', c.args.toList.map ρ', hm, h1, by rw [h6]; exact hlen, hra, ?_⟩
            simp only [resolve, hf, he, hv, Deferred.ofValue, Sem.run_bind, Sem.run_pure, Result.andThen_ok, invoke]
            have h10 := run_yield (P := P) (args := ⟨c.args.toList.map ρ'⟩) h1 (by rw [h6, ← hlen, hra.length]; simp)
            simpa using h10
          · cases h
        · cases h
      · cases h
  · cases h
theorem defer_ok (F : Fits w0 m H w) {ρ : RhoT} {ρ' : Operand → Value} {c : Call} {ty : TypeId} (hr : ∀ x ∈ c.operands.toList, ∀ v, ρ x = some v → Rel m v (ρ' x)) (h : opDefer P ρ H c = some (nx, H')) : OpPost w0 m H' nx ((do pure (.defer (← resolve ρ' c ty)) : Sem Next).run P w) := by
  unfold opDefer at h
  split at h
  · rename_i args ha
    obtain ⟨he, hra⟩ := argsA_map (m := m) (ρ' := ρ') (fun x hx => hr x (by simp only [Call.operands]; simp [hx])) ha
    split at h
    · rename_i f hf
      unfold deferV at h
      split at h
      · rename_i g a b e
        split at h
        · rename_i hbody
          simp only [Option.some.injEq, Prod.mk.injEq] at h
          obtain ⟨rfl, rfl⟩ := h
          have hrf := hr f (by simp [Call.operands, hf]) _ e
          generalize hv : ρ' f = vf at hrf
          cases hrf with | @fn _ _ _ l' c' h1 h2 =>
          refine ⟨m, w, Ext.refl m, F, l' ++ c.args.toList.map ρ', c', ?_, h1.append hra, h2⟩
          simp only [resolve, hf, he, hv, Deferred.ofValue, Sem.run_bind, Sem.run_pure, Result.andThen_ok]
          simp
        · cases h
      · cases h
    · cases h
  · cases h

/-- ONE OPERATION comes to what the small machine says. -/
theorem opA_ok (F : Fits w0 m H w) {ρ : RhoT} {ρ' : Operand → Value} (o : Oper) (hr : ∀ x ∈ o.op.operands.toList, ∀ v, ρ x = some v → Rel m v (ρ' x)) (h : opA P ρ o H = some (nx, H')) : OpPost w0 m H' nx ((execOp ρ' o).run P w) := by
  obtain ⟨dst, op, ty, pos, after, guard⟩ := o
  unfold opA opTable at h
  simp only at h hr
  cases op
  case move x =>
    simp only [do_move] at h
    have := outV_ok (m := m) (w := w) (r := .ok (ρ' x) w) (x' := ρ' x) h (fun v hv => ⟨rfl, hr x (by simp [Op.operands]) v hv⟩)
    exact PureOK.op (P := P) (s := pure (ρ' x)) F this
  case assign x =>
    simp only [do_assign] at h
    have := outV_ok (m := m) (w := w) (r := .ok (ρ' x) w) (x' := ρ' x) h (fun v hv => ⟨rfl, hr x (by simp [Op.operands]) v hv⟩)
    exact PureOK.op (P := P) (s := pure (ρ' x)) F this
  case pick c a b =>
    simp only [do_pick, opPick] at h
    split at h
    · rename_i e
      have hc := rel_bool (hr c (by simp [Op.operands]) _ e)
      have := outV_ok (m := m) (w := w) (r := .ok (ρ' a) w) (x' := ρ' a) h (fun v hv => ⟨rfl, hr a (by simp [Op.operands]) v hv⟩)
      have := PureOK.op (P := P) (s := pure (ρ' a)) F this
      simp only [execOp, hc, asBool]
      exact this
    · rename_i e
      have hc := rel_bool (hr c (by simp [Op.operands]) _ e)
      have := outV_ok (m := m) (w := w) (r := .ok (ρ' b) w) (x' := ρ' b) h (fun v hv => ⟨rfl, hr b (by simp [Op.operands]) v hv⟩)
      have := PureOK.op (P := P) (s := pure (ρ' b)) F this
      simp only [execOp, hc, asBool]
      exact this
    · cases h
  case alloc e => exact (alloc_ok F h).op
  case box e x => exact (box_ok F (fun v hv => hr x (by simp [Op.operands]) v hv) h).op
  case build t ps => exact (build_ok (fun x hx v hv => hr x (by simpa [Op.operands] using hx) v hv) h).op F
  case buildSlice t n ps => exact (buildSlice_ok F (fun x hx v hv => hr x (by simpa [Op.operands] using hx) v hv) h).op
  case insert t m' k x => exact unit_op (mapUpdate_ok F (fun v hv => hr m' (by simp [Op.operands]) v hv) (fun v hv => hr k (by simp [Op.operands]) v hv) (fun v hv => hr x (by simp [Op.operands]) v hv) h)
  case load t a => exact (load_ok F (fun v hv => hr a (by simp [Op.operands]) v hv) h).op F
  case store t a x => exact unit_op (store_ok F (fun v hv => hr a (by simp [Op.operands]) v hv) (fun v hv => hr x (by simp [Op.operands]) v hv) h)
  case ready g => cases h
  case waits g => cases h
  case nilCheck x =>
    obtain ⟨v, v', rfl, rfl, h1, h2⟩ := nil_check_ok (P := P) (w := w) (x' := ρ' x) (fun v hv => hr x (by simp [Op.operands]) v hv) h ⟨dst, .nilCheck x, ty, pos, after, guard⟩ x ρ' rfl rfl
    exact ⟨m, w, Ext.refl m, F, v', h1, h2⟩
  case binOp op t x y p =>
    simp only [do_binOp, opBinV] at h
    split at h
    · rename_i a b ha hb
      split at h
      · rename_i hap
        exact PureOK.op F (apart_ok F op t x y (hr x (by simp [Op.operands]) _ ha) (hr y (by simp [Op.operands]) _ hb) (Bool.and_eq_true_iff.1 hap).2 h)
      · simp only [opBin] at h
        unfold outV at h
        split at h
        · rename_i v hv
          obtain ⟨v', h1, h2⟩ := binA_ok op t x y a b (ρ' x) (ρ' y) (hr x (by simp [Op.operands]) _ ha) (hr y (by simp [Op.operands]) _ hb) v hv w
          exact PureOK.op F (val_ok h h1 h2)
        · cases h
    · cases h
  case unOp op t x => exact (un_ok (fun v hv => hr x (by simp [Op.operands]) v hv) h).op F
  case convert s d x => exact (conv_ok F (fun v hv => hr x (by simp [Op.operands]) v hv) h).op
  case sliceToArrayPointer => cases h
  case makeInterface t x => exact (iface_ok (fun v hv => hr x (by simp [Op.operands]) v hv) h).op F
  case makeFunc fn a b => exact (makeFunc_ok (fun x hx v hv => hr x (by simpa [Op.operands] using hx) v hv) h).op F
  case makeMap t r => exact (makeMap_ok F h).op
  case makeChan => cases h
  case makeSlice t a b => exact (makeSlice_ok F (fun v hv => hr a (by simp [Op.operands]) v hv) (fun v hv => hr b (by simp [Op.operands]) v hv) h).op
  case slice t x lo hi mx => exact (slice_ok F (fun o ho v hv => hr o (by
    rcases ho with rfl | rfl | rfl | rfl <;> simp [Op.operands]) v hv) h).op F
  case fieldAddr s x f => exact (fieldAddr_ok (fun v hv => hr x (by simp [Op.operands]) v hv) h).op F
  case field t x f => exact (field_ok (fun v hv => hr x (by simp [Op.operands]) v hv) h).op F
  case indexAddr t x i => exact (indexAddr_ok (fun v hv => hr x (by simp [Op.operands]) v hv) (fun v hv => hr i (by simp [Op.operands]) v hv) h).op F
  case index t x i => exact (index_ok (fun v hv => hr x (by simp [Op.operands]) v hv) (fun v hv => hr i (by simp [Op.operands]) v hv) h).op F
  case lookup t x i ok => exact (lookup_ok F (fun v hv => hr x (by simp [Op.operands]) v hv) (fun v hv => hr i (by simp [Op.operands]) v hv) h).op F
  case mapUpdate t m' k x => exact unit_op (mapUpdate_ok F (fun v hv => hr m' (by simp [Op.operands]) v hv) (fun v hv => hr k (by simp [Op.operands]) v hv) (fun v hv => hr x (by simp [Op.operands]) v hv) h)
  case mapEntry => cases h
  case entryStore => cases h
  case range => cases h
  case next => cases h
  case entry => cases h
  case typeAssert x u t ok => exact (assert_ok (fun v hv => hr x (by simp [Op.operands]) v hv) h).op F
  case extract t i => exact (extract_ok (fun v hv => hr t (by simp [Op.operands]) v hv) h).op F
  case call c => exact call_ok F (fun x hx v hv => hr x hx v hv) h
  case go => cases h
  case defer c => exact defer_ok F (fun x hx v hv => hr x hx v hv) h
  case panic x =>
    simp only [do_panic, opPanic] at h
    split at h
    · rename_i t v e
      simp only [Option.some.injEq, Prod.mk.injEq] at h
      obtain ⟨rfl, rfl⟩ := h
      have hx := hr x (by simp [Op.operands]) _ e
      generalize hv : ρ' x = vx at hx
      cases hx with | @ifc _ _ v' hv' =>
      exact ⟨m, w, Ext.refl m, F, .iface t v', by simp [execOp, Instr.panic, hv], .ifc hv'⟩
    · cases h
  case send => cases h
  case recv => cases h
  case select => cases h
end

end
end Go.Proofs.Ytpnccmlajhhpdaa.Abs
