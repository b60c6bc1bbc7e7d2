/- The other operations; all of them in one theorem. -/
import Derived.Test.YtpnccmlajhhpdaaAbs7
import Derived.Lib.Builder
namespace Go.Proofs.Ytpnccmlajhhpdaa.Abs
noncomputable section
open Go.RowKit

section
variable {P : Program} {m : Map} {w0 : Base} {w : World} {H H' : AHeap} {nx : ANext}

/-! ### copy, clear, lengths, least and greatest -/
theorem copy_ok (F : Fits w0 m H w) {t : TypeId} {d s : AV} {d' s' : Value} (hd : Rel m d d') (hs : Rel m s s') (ts : Array TypeId) (ty : TypeId) (h0 : ts[0]? = some t) (h : opCopy P H t d s = some (nx, H')) :
    ValPost w0 m H' nx ((Builtin.copy_ ts ty #[d', s']).run P w) := by
  unfold opCopy at h
  split at h
  · rename_i e k n he hk hn
    have ht := elemOf_ok he
    split at h
    · rename_i cs hcs
      split at h
      · rename_i b o q sz
        split at h
        · rename_i hsz
          obtain ⟨hsz, hinfo⟩ := hsz
          split at h
          · rename_i H1 hput
            simp only [Option.some.injEq, Prod.mk.injEq] at h
            obtain ⟨rfl, rfl⟩ := h
            simp only [lenA, Option.some.injEq] at hk; subst hk
            cases hd with | @sl _ _ _ _ cap g s0 z0 hm hcap hzz =>
            obtain ⟨hlen, cs', hr, hnl, hgv⟩ := first_ok (P := P) F hs hn (Nat.min_le_left n q) hcs
            obtain ⟨F', hth, hone⟩ := rowPut_ok F hm hr hput
            obtain ⟨i, hi⟩ := Option.isSome_iff_exists.1 hinfo
            have hci := cells_info hi
            have hst := run_storeCells_cells (P := P) g (s0 + o) cs' 0 w (fun j hj => by simpa using (hth j hj).1) (fun j hj => by simpa using (hth j hj).2) hone
            simp only [Nat.add_zero] at hst
            have hf := hgv w (fun _ => rfl)
            rw [hci] at hf
            refine ⟨m, _, _, .int .i64 ((Nat.min n q : Nat) : Int), Ext.refl m, F', rfl, ?_, .int .i64 _⟩
            have hmin : Nat.min n q = min n q := rfl
            rw [hmin] at *
            simp [Builtin.copy_, h0, run_underlying ht, hlen, sizeOf, typeInfo, hi, hf, hst, goInt]
          · cases h
        · cases h
      · split at h
        · split at h
          · rename_i hinfo
            simp only [Option.some.injEq, Prod.mk.injEq] at h
            obtain ⟨rfl, rfl⟩ := h
            simp only [lenA, Option.some.injEq] at hk; subst hk
            cases hd with | esl a cap =>
            obtain ⟨hlen, cs', hr, hnl, hgv⟩ := first_ok (P := P) F hs hn (Nat.min_le_left n 0) hcs
            cases hr
            obtain ⟨i, hi⟩ := Option.isSome_iff_exists.1 hinfo
            have hci := cells_info hi
            have hf := hgv w (fun _ => rfl)
            rw [hci] at hf
            refine ⟨m, _, _, .int .i64 ((Nat.min n 0 : Nat) : Int), Ext.refl m, F, rfl, ?_, .int .i64 _⟩
            rw [show min n 0 = 0 from Nat.min_zero n] at hf
            simp [Builtin.copy_, h0, run_underlying ht, hlen, sizeOf, typeInfo, hi, hf, goInt, storeCells]
          · cases h
        · cases h
      · cases h
    · cases h
  · cases h
theorem run_getObj_map {g clock : Nat} {es : Array MapEntry} (h : w.heap[g]? = some (.map es clock)) : (getObj g).run P w = .ok (.map es clock) w := by simp [getObj, Sem.run, h]
theorem len_ok (F : Fits w0 m H w) {t : TypeId} {x : AV} {x' : Value} (hx : Rel m x x') (ts : Array TypeId) (ty : TypeId) (h0 : ts[0]? = some t) (h : opLen P H t x = some (nx, H')) : PureOK m w H nx H' ((Builtin.len_ ts ty #[x']).run P w) := by
  unfold opLen at h
  split at h
  · rename_i n e hu
    exact val_ok (v' := .int .i64 (n : Int)) h (by simp [Builtin.len_, h0, run_underlying hu, goInt]) (.int .i64 _)
  · rename_i hu
    split at h
    · cases hx with | str s h1 h2 =>
      exact val_ok (v' := .int .i64 (s.size : Int)) h (by simp [Builtin.len_, h0, run_underlying hu, goInt]) (by rw [size_bytes, h1]; exact .int .i64 _)
    · cases h
  · rename_i e hu
    split at h
    · cases hx
      exact val_ok (v' := .int .i64 _) h (by simp [Builtin.len_, h0, run_underlying hu, goInt]) (.int .i64 _)
    · cases hx
      exact val_ok (v' := .int .i64 _) h (by simp [Builtin.len_, h0, run_underlying hu, goInt]) (.int .i64 _)
    · cases hx
      exact val_ok (v' := .int .i64 _) h (by simp [Builtin.len_, h0, run_underlying hu, goInt]) (.int .i64 _)
    · cases h
  · rename_i kt et hu
    split at h
    · rename_i es hes
      unfold mapGet at hes
      split at hes
      · simp only [Option.some.injEq] at hes; subst hes
        cases hx
        exact val_ok (v' := .int .i64 _) h (by simp [Builtin.len_, h0, run_underlying hu, goInt]) (.int .i64 _)
      · rename_i b
        split at hes
        · rename_i es' hb
          simp only [Option.some.injEq] at hes; subst hes
          cases hx with | mp hm =>
          obtain ⟨_, _, _, es2, clock, hheap, hrel⟩ := F.map b es' _ _ _ hb hm
          have hl : es'.length = es2.size := by
            have : ∀ {a : List (AV × AV)} {c : List MapEntry}, RelM m a c → a.length = c.length := by
              intro a c hac
              induction hac with
              | nil => rfl
              | cons _ _ _ ih => simp [ih]
            rw [this hrel]; simp
          have hget := run_getObj_map (P := P) hheap
          exact val_ok (v' := .int .i64 (es2.size : Int)) h (by simp [Builtin.len_, h0, run_underlying hu, goInt, hget]) (by rw [hl]; exact .int .i64 _)
        · cases hes
      · cases hes
    · cases h
  · cases h

theorem minInts_ok (k : IntKind) : ∀ (l : List AV) (l' : List Value) (a : Int) (v : AV), RelL m l l' → minInts k a l = some v → ∃ v', (l'.foldlM Builtin.min2 (.int k a)).run P w = .ok v' w ∧ Rel m v v'
  | [], _, a, v, hl, h => by
    cases hl
    simp only [minInts, Option.some.injEq] at h; subst h
    exact ⟨_, rfl, .int k a⟩
  | x :: l, _, a, v, hl, h => by
    cases hl with | cons hx hl =>
    unfold minInts at h
    split at h
    · rename_i e; cases e
    · rename_i e
      cases e
      cases hx
      obtain ⟨v', h1, h2⟩ := minInts_ok k l _ _ v hl h
      refine ⟨v', ?_, h2⟩
      simp only [List.foldlM_cons, Sem.run_bind, Builtin.min2, Sem.run_pure, Result.andThen_ok]
      exact h1
    · cases h
theorem maxInts_ok (k : IntKind) : ∀ (l : List AV) (l' : List Value) (a : Int) (v : AV), RelL m l l' → maxInts k a l = some v → ∃ v', (l'.foldlM Builtin.max2 (.int k a)).run P w = .ok v' w ∧ Rel m v v'
  | [], _, a, v, hl, h => by
    cases hl
    simp only [maxInts, Option.some.injEq] at h; subst h
    exact ⟨_, rfl, .int k a⟩
  | x :: l, _, a, v, hl, h => by
    cases hl with | cons hx hl =>
    unfold maxInts at h
    split at h
    · rename_i e; cases e
    · rename_i e
      cases e
      cases hx
      obtain ⟨v', h1, h2⟩ := maxInts_ok k l _ _ v hl h
      refine ⟨v', ?_, h2⟩
      simp only [List.foldlM_cons, Sem.run_bind, Builtin.max2, Sem.run_pure, Result.andThen_ok]
      exact h1
    · cases h

/-! ### one value -/
theorem nil_check_ok {x : Option AV} {x' : Value} (hx : ∀ v, x = some v → Rel m v x') (h : opNil H x = some (nx, H')) (o : Oper) (y : Operand) (ρ' : Operand → Value) (ho : o.op = .nilCheck y) (hy : ρ' y = x') : ∃ v v', nx = .val v ∧ H' = H ∧ (execOp ρ' o).run P w = .ok (.value v') w ∧ Rel m v v' := by
  unfold opNil at h
  split at h
  all_goals first
    | (cases h; done)
    | (simp only [Option.some.injEq, Prod.mk.injEq] at h
       obtain ⟨rfl, rfl⟩ := h
       have hr := hx _ rfl
       refine ⟨_, x', rfl, rfl, ?_, hr⟩
       cases hr
       simp [execOp, ho, hy])
theorem un_ok {op : UnOp} {x : Option AV} {x' : Value} (hx : ∀ v, x = some v → Rel m v x') (h : opUn H op x = some (nx, H')) : PureOK m w H nx H' ((Op.unary op x').run P w) := by
  unfold opUn at h
  split at h
  · have hr := rel_int (hx _ rfl)
    subst hr
    split at h
    · exact val_ok (v' := .int _ _) h (by simp only [Op.unary, Op.intArith]; rfl) (.int _ _)
    · exact val_ok (v' := .int _ _) h (by simp only [Op.unary, Op.intBits]; rfl) (.int _ _)
    · cases h
  · have hr := rel_bool (hx _ rfl)
    subst hr
    split at h
    · exact val_ok (v' := .bool _) h (by simp only [Op.unary]; rfl) (.bool _)
    · cases h
  · cases h
theorem bytesA_ok : ∀ (cs : List AV) (cs' : List Value) (n v : Nat), RelL m cs cs' → bytesA cs = some (n, v) → ∃ l : List UInt8, cs' = byteCells l ∧ l.length = n ∧ enc l = v
  | [], cs', n, v, hr, h => by
    cases hr
    simp only [bytesA, Option.some.injEq, Prod.mk.injEq] at h
    obtain ⟨rfl, rfl⟩ := h
    exact ⟨[], rfl, rfl, rfl⟩
  | x :: cs, cs', n, v, hr, h => by
    cases hr with | cons hx hr =>
    unfold bytesA at h
    split at h
    · rename_i e; cases e
    · rename_i b l e
      cases e
      split at h
      · rename_i n' v' hb
        split at h
        · rename_i hlt
          have hlt := Nat.le_of_ble_eq_true hlt
          simp only [Option.some.injEq, Prod.mk.injEq] at h
          obtain ⟨rfl, rfl⟩ := h
          obtain ⟨l', rfl, h2, h3⟩ := bytesA_ok _ _ n' v' hr hb
          cases hx
          have hbt : (UInt8.ofNat b).toNat = b := by
            simp only [UInt8.toNat_ofNat']; omega
          refine ⟨UInt8.ofNat b :: l', ?_, by simp [h2], ?_⟩
          · simp only [byteCells, List.map_cons, hbt]
            rfl
          · rw [enc_cons, hbt, h3]
        · cases h
      · cases h
    · cases h
theorem convBytes_ok {s d : TypeId} {o n cap g s0 : Nat} {r : Result Value} {cs : Option (List AV)} (hcs : ∀ l, cs = some l → ∃ l', RelL m l l' ∧ l'.length = n ∧ w.rangeAt g (s0 + o) l') (hr : r = (convert s d (.slice (some ⟨g, s0 + o, none⟩) n cap)).run P w) (h : convBytes P H s d cs = some (nx, H')) :
    PureOK m w H nx H' r := by
  unfold convBytes at h
  split at h
  · rename_i e hd hs
    split at h
    · rename_i cs he
      split at h
      · rename_i k v hb
        obtain ⟨l', h1, h2, h3⟩ := hcs _ rfl
        obtain ⟨l, rfl, h4, h5⟩ := bytesA_ok _ _ k v h1 hb
        have hn : n = l.length := by rw [← h2]; simp [byteCells]
        subst hn
        have hrun := run_convert_bytes_back w s d e ⟨g, s0 + o, none⟩ cap l hs he hd (fun j hj => by
          rw [Addr.add_mid]
          exact h3 j _ (by simp [byteCells, hj]))
        rw [hr]
        exact val_ok h hrun (.str _ (by simpa using h4) (by simpa using h5))
      · cases h
    · cases h
  · cases h
theorem blt_lt {a b : Nat} (h : Nat.blt a b = true) : a < b := Nat.le_of_ble_eq_true h
theorem convPtr_ok (F : Fits w0 m H w) {s d : TypeId} {b o : Nat} {x' : Value} (hx : Rel m (.ptr b o) x') (h : convPtr P H s d b o = some (nx, H')) : PureOK m w H nx H' ((convert s d x').run P w) := by
  cases hx with | @ptr _ _ g s0 z hm =>
  unfold convPtr at h
  split at h
  · rename_i t hs
    split at h
    · rename_i i n T e hd hi hrow
      split at h
      · rename_i hc
        obtain ⟨h1, h2⟩ := hc
        have h1 := blt_lt h1
        obtain ⟨_, c, fz, hheap, hz, hsz, _, _, _⟩ := F.row b n T e g s0 z hrow hm
        have hsh : w.shape? g = some (e, z) := by simp [World.shape?, hheap, hz]
        exact val_ok h (Lib.run_to_unsafe w ⟨g, s0 + o, none⟩ hs hd hi (fun e0 => by rw [e0] at h2; cases h2) hsh (by simp only; omega)) (.ptr hm)
      · cases h
    · cases h
  · rename_i hs
    split at h
    · rename_i u n T e hd hrow
      split at h
      · rename_i hc
        obtain ⟨h1, h2, h3⟩ := hc
        obtain ⟨i, hi⟩ := Option.isSome_iff_exists.1 h3
        obtain ⟨_, c, fz, hheap, hz, hsz, _, _, _⟩ := F.row b n T e g s0 z hrow hm
        obtain ⟨⟨rfl, rfl⟩, _⟩ := F.exact b n T e g s0 z hrow hm h1
        have hsh : w.shape? g = some (e, z) := by simp [World.shape?, hheap, hz]
        exact val_ok h (Lib.run_from_unsafe w ⟨g, 0 + o, none⟩ hs hd hi hsh (by simpa using h2)) (.ptr hm)
      · cases h
    · cases h
  · cases h
theorem conv_ok (F : Fits w0 m H w) {s d : TypeId} {x : Option AV} {x' : Value} (hx : ∀ v, x = some v → Rel m v x') (h : opConv P H s d x = some (nx, H')) : ValPost w0 m H' nx ((convert s d x').run P w) := by
  unfold opConv at h
  split at h
  · exact PureOK.post F (convPtr_ok F (hx _ rfl) h)
  · rename_i k n
    have hr := rel_int (hx _ rfl)
    subst hr
    split at h
    · rename_i sd kd hs hd
      refine PureOK.post F (val_ok (v' := .int _ _) h ?_ (.int _ _))
      simp [convert, run_underlying hs, run_underlying hd, Conv.intToInt]
    · cases h
  · rename_i n v
    cases hx _ rfl with | str str h1 h2 =>
    obtain rfl : n = str.size := by rw [← h1, size_bytes]
    split at h
    · rename_i hs
      unfold convStr at h
      split at h
      · rename_i hd
        refine PureOK.post F (val_ok (v' := .string str) h ?_ (.str str h1 h2))
        simp [convert, run_underlying hs, run_underlying hd]
      · rename_i e hd
        split at h
        · rename_i he
          split at h
          · rename_i hc1
            have hrun := run_bytes_of_string (P := P) w s d e str hs hd he
            unfold outNewS at h
            split at h
            · rename_i hone
              obtain ⟨hone, hexb⟩ := hone
              have hexn : memB e H.ex = false := hexb
              simp only [Option.some.injEq, Prod.mk.injEq] at h
              obtain ⟨rfl, rfl⟩ := h
              have hr := strCells_ok m str.data.toList str.size (by omega)
              rw [h2] at hr
              have hge := grownCap_ge w str.size 0 e
              have htk : str.data.toList.take str.size = str.data.toList := List.take_of_length_le (by omega)
              rw [htk] at hr
              have hrow : (bytesRow str (grownCap w str.size 0 e)).toList = byteCells str.data.toList ++ List.replicate (grownCap w str.size 0 e - str.size) (.int .u8 0) := by
                simp [bytesRow, byteCells]
              have F2 := newAt_ok F.drew (w' := w.drew.alloc (.cells (bytesRow str (grownCap w str.size 0 e)) e ((bytesRow str (grownCap w str.size 0 e)).size, (bytesRow str (grownCap w str.size 0 e)).size + 1))) (c := bytesRow str (grownCap w str.size 0 e)) (e := e)
                (F.drew.below.alloc F.drew.size _) (fun q hq => Below.heap_alloc _ _ _ hq) (heap_alloc_new w.drew _) (fun i hi => by simp only; omega) (by
                  have : (bytesRow str (grownCap w str.size 0 e)).size = (bytesRow str (grownCap w str.size 0 e)).toList.length := by simp
                  rw [this, hrow]; simp) (fun i hi => by
                  have : (bytesRow str (grownCap w str.size 0 e))[i]? = (bytesRow str (grownCap w str.size 0 e)).toList[i]? := by simp
                  rw [this, hrow, List.getElem?_append_left hi]) hr (byteCells_one _) (fun hx => by rw [hexn] at hx; cases hx)
              refine ⟨_, _, _, _, Ext.append m _, F2, rfl, hrun, ?_⟩
              have hbl : (bytesRow str (grownCap w str.size 0 e)).size = grownCap w str.size 0 e := by
                have : (bytesRow str (grownCap w str.size 0 e)).size = (bytesRow str (grownCap w str.size 0 e)).toList.length := by simp
                rw [this, hrow]
                simp only [List.length_append, List.length_replicate, byteCells, List.length_map]
                omega
              have := Rel.sl (o := 0) (n := str.size) (sz := 1) (cap := grownCap w str.size 0 e) (map_new F.drew (w.drew.heap.size, 0, (bytesRow str (grownCap w str.size 0 e)).size)) (by omega) (by omega)
              simpa using this
            · cases h
          · cases h
        · cases h
      · cases h
    · cases h
  · rename_i b o n sz
    split at h
    · rename_i hsz
      subst hsz
      cases hx _ rfl with | @sl _ _ _ _ cap g s0 z0 hm hcap hzz =>
      exact PureOK.post F (convBytes_ok (fun l hl => by obtain ⟨l', h1, h2, h3, _⟩ := rowGet_ok F hm hl; exact ⟨l', h1, h2, h3⟩) rfl h)
    · cases h
  · cases hx _ rfl
    unfold convBytes at h
    split at h
    · rename_i e hd hs
      split at h
      · rename_i cs he hcs
        simp only [Option.some.injEq] at hcs; subst hcs
        simp only [bytesA] at h
        refine PureOK.post F (val_ok (v' := .string .empty) h ?_ (.str _ (by simp) (by rfl)))
        rw [run_convert_bytes_string w s d e none 0 0 hs he hd]
        simp [Conv.bytesToString]
      · cases h
    · cases h
  · cases hx _ rfl with | esl a cap =>
    unfold convBytes at h
    split at h
    · rename_i e hd hs
      split at h
      · rename_i cs he hcs
        simp only [Option.some.injEq] at hcs; subst hcs
        simp only [bytesA] at h
        refine PureOK.post F (val_ok (v' := .string ⟨[].toArray⟩) h ?_ (.str _ (by simp) (by rfl)))
        exact run_convert_bytes_back w s d e a cap [] hs he hd (fun j hj => by simp at hj)
      · cases h
    · cases h
  · cases h

/-! ### parts of texts and rows -/
theorem bound_ok {x : Option Operand} {ρ : RhoT} {ρ' : Operand → Value} {y : Option AV} {d n : Nat} (hr : ∀ o, x = some o → ∀ v, ρ o = some v → Rel m v (ρ' o)) (hy : optA ρ x = some y) (hn : boundA y d = some n) : (x = none ∧ y = none ∧ n = d) ∨ ∃ o k, x = some o ∧ ρ' o = .int k (n : Int) := by
  unfold optA at hy
  split at hy
  · simp only [Option.some.injEq] at hy; subst hy
    simp only [boundA, Option.some.injEq] at hn
    exact .inl ⟨rfl, rfl, hn.symm⟩
  · rename_i o
    split at hy
    · rename_i v hv
      simp only [Option.some.injEq] at hy; subst hy
      unfold boundA at hn
      split at hn
      · rename_i e; cases e
      · rename_i k q e
        simp only [Option.some.injEq] at e hn; subst e; subst hn
        have := rel_int (hr o rfl _ hv)
        exact .inr ⟨o, k, rfl, this⟩
      · cases hn
    · cases hy
/-- the bounds of a part, as they are reckoned -/
theorem bounds_ok {lo hi : Option Operand} {ρ : RhoT} {ρ' : Operand → Value} {ylo yhi : Option AV} {isS : Bool} {len cap l r : Nat} (hr : ∀ o, (lo = some o ∨ hi = some o) → ∀ v, ρ o = some v → Rel m v (ρ' o)) (hlo : optA ρ lo = some ylo) (hhi : optA ρ hi = some yhi)
    (hl : boundA ylo 0 = some l) (hh : boundA yhi len = some r) (h1 : l ≤ r) (h2 : r ≤ len) (h3 : len ≤ cap) (w : World) : (Instr.sliceBounds isS len cap (lo.map ρ') (hi.map ρ') none).run P w = .ok (l, r, cap) w := by
  have b1 := bound_ok (fun o e => hr o (.inl e)) hlo hl
  have b2 := bound_ok (fun o e => hr o (.inr e)) hhi hh
  rcases b1 with ⟨rfl, _, rfl⟩ | ⟨o1, k1, rfl, e1⟩ <;> rcases b2 with ⟨rfl, _, rfl⟩ | ⟨o2, k2, rfl, e2⟩
  · simp [Instr.sliceBounds]
  · simp only [Option.map_none, Option.map_some, e2]
    simp [Instr.sliceBounds, run_sliceBound, (by omega : ((r : Int)) ≤ (cap : Int))]
  · simp only [Option.map_none, Option.map_some, e1]
    simp [Instr.sliceBounds, run_sliceBound, (by omega : ((l : Int)) ≤ (r : Int))]
  · simp only [Option.map_some, e1, e2]
    simp [Instr.sliceBounds, run_sliceBound, (by omega : ((r : Int)) ≤ (cap : Int)), (by omega : ((l : Int)) ≤ (r : Int))]
theorem slice3_ok {ρ : RhoT} {ρ' : Operand → Value} {t : TypeId} {x : Operand} {lo hi mx : Option Operand} (hr : ∀ o, (o = x ∨ lo = some o ∨ hi = some o ∨ mx = some o) → ∀ v, ρ o = some v → Rel m v (ρ' o)) {xv : AV} {ylo yhi ymx : Option AV}
    (hx : ρ x = some xv) (hlo : optA ρ lo = some ylo) (hhi : optA ρ hi = some yhi) (hmx : optA ρ mx = some ymx) (h : slice3A P H t xv ylo yhi ymx = some (nx, H')) : PureOK m w H nx H' ((Instr.sliceAt t (ρ' x) (lo.map ρ') (hi.map ρ') (mx.map ρ')).run P w) := by
  unfold slice3A at h
  split at h
  · cases h
  · rename_i yh
    split at h
    · cases h
    · rename_i ym
      have hrx := hr x (.inl rfl) xv hx
      generalize ρ' x = x' at *
      split at h
      · rename_i b o k sz
        cases hrx with | @sl _ _ _ _ cap g s0 z0 hm hcap hzz =>
        unfold slice3Row at h
        split at h
        · rename_i l r q hl hh hq
          split at h
          · rename_i e he
            have hu := elemOf_ok he
            split at h
            · rename_i hc
              obtain ⟨c1, c2, c3, c4, c5⟩ := hc
              have c1 := Nat.le_of_ble_eq_true c1
              have c2 := Nat.le_of_ble_eq_true c2
              have c3 := Nat.le_of_ble_eq_true c3
              obtain ⟨i, hinf⟩ := Option.isSome_iff_exists.1 c5
              have hue : P.underlying t = some (.slice (P.elem t)) := by simp [Program.elem, hu]
              have b1 := bound_ok (fun o e => hr o (.inr (.inl e))) hlo hl
              have b2 := bound_ok (fun o e => hr o (.inr (.inr (.inl e)))) hhi hh
              have b3 := bound_ok (fun o e => hr o (.inr (.inr (.inr e)))) hmx hq
              have hbb : (Instr.sliceBounds true k cap (lo.map ρ') (hi.map ρ') (mx.map ρ')).run P w = .ok (l, r, q) w := by
                rcases b2 with ⟨_, e2, _⟩ | ⟨o2, k2, rfl, e2⟩
                · cases e2
                rcases b3 with ⟨_, e3, _⟩ | ⟨o3, k3, rfl, e3⟩
                · cases e3
                rcases b1 with ⟨rfl, _, rfl⟩ | ⟨o1, k1, rfl, e1⟩
                · simp only [Option.map_none, Option.map_some, e2, e3]
                  simp [Instr.sliceBounds, run_sliceBound, (by omega : ((q : Int)) ≤ (cap : Int)), (by omega : ((r : Int)) ≤ (q : Int))]
                · simp only [Option.map_some, e1, e2, e3]
                  simp [Instr.sliceBounds, run_sliceBound, (by omega : ((q : Int)) ≤ (cap : Int)), (by omega : ((r : Int)) ≤ (q : Int)), (by omega : ((l : Int)) ≤ (r : Int))]
              have hrun : (Instr.sliceAt t (.slice (some ⟨g, s0 + o, none⟩) k cap) (lo.map ρ') (hi.map ρ') (mx.map ρ')).run P w = .ok (.slice (if q = l then some ⟨g, s0 + o, none⟩ else some ⟨g, s0 + o + l * sz, none⟩) (r - l) (q - l)) w := by
                rw [run_sliceAt_slice w t _ _ _ _ hue]
                simp only [Instr.slice, Sem.run_bind, run_underlying hu, Result.andThen_ok, hbb, run_sizeOf w hinf, Sem.run_pure, c4]
                congr 2
                split
                · rfl
                · simp [Addr.add_mid]
              refine val_ok h hrun ?_
              by_cases hcl : q = l
              · rw [if_pos hcl]
                have hrl : r = l := by omega
                by_cases hl0 : l = 0
                · rw [if_neg (by rw [hl0]; simp [Nat.blt])]
                  have := Rel.sl (o := o) (n := 0) (cap := 0) (sz := sz) hm (by omega) (by rw [Nat.zero_mul]; omega)
                  rw [hrl, hcl, Nat.sub_self, hl0, Nat.zero_mul, Nat.add_zero]
                  exact this
                · rw [if_pos ⟨by rw [hcl]; exact Nat.beq_refl l, by simp [Nat.blt]; omega⟩, hrl, Nat.sub_self]
                  exact .esl _ _
              · rw [if_neg hcl]
                split
                · rename_i hq
                  have hq1 := Nat.eq_of_beq_eq_true hq.1
                  exact absurd hq1.symm hcl
                · have h5 : (q - l) * sz + l * sz = q * sz := by rw [← Nat.add_mul]; congr 1; omega
                  have h6 : q * sz ≤ cap * sz := Nat.mul_le_mul_right _ (by omega)
                  have := Rel.sl (o := o + l * sz) (n := r - l) (cap := q - l) (sz := sz) hm (by omega) (by omega)
                  rw [Nat.add_assoc]
                  exact this
            · cases h
          · cases h
        · cases h
      · cases h
theorem slice_ok {w0 : Base} (F : Fits w0 m H w) {ρ : RhoT} {ρ' : Operand → Value} {t : TypeId} {x : Operand} {lo hi mx : Option Operand} (hr : ∀ o, (o = x ∨ lo = some o ∨ hi = some o ∨ mx = some o) → ∀ v, ρ o = some v → Rel m v (ρ' o)) (h : opSlice P ρ H t x lo hi mx = some (nx, H')) :
    PureOK m w H nx H' ((Instr.sliceAt t (ρ' x) (lo.map ρ') (hi.map ρ') (mx.map ρ')).run P w) := by
  unfold opSlice at h
  split at h
  · split at h
    · rename_i xv ylo yhi ymx hx hlo hhi hmx
      exact slice3_ok hr hx hlo hhi hmx h
    · cases h
  · have hr : ∀ o, (o = x ∨ lo = some o ∨ hi = some o) → ∀ v, ρ o = some v → Rel m v (ρ' o) := fun o ho => hr o (ho.elim .inl (fun h => h.elim (fun h => .inr (.inl h)) (fun h => .inr (.inr (.inl h)))))
    split at h
    · rename_i xv ylo yhi hx hlo hhi
      have hrx := hr x (.inl rfl) xv hx
      have hb : ∀ {isS : Bool} {len cap l r : Nat}, boundA ylo 0 = some l → boundA yhi len = some r → l ≤ r → r ≤ len → len ≤ cap → (Instr.sliceBounds isS len cap (lo.map ρ') (hi.map ρ') none).run P w = .ok (l, r, cap) w :=
        fun hl hh h1 h2 h3 => bounds_ok (fun o e => hr o (.inr e)) hlo hhi hl hh h1 h2 h3 w
      unfold sliceA at h
      simp only [Option.map_none]
      generalize ρ' x = x' at *
      split at h
      · -- a part of an array
        rename_i b o
        cases hrx with | @ptr _ _ g s0 z0 hm =>
        split at h
        · rename_i n e hu
          split at h
          · rename_i hi0
            obtain ⟨i, hinf⟩ := Option.isSome_iff_exists.1 hi0
            unfold sliceArr at h
            split at h
            · rename_i l r hl hh
              split at h
              · rename_i N tt ee hrow
                split at h
                · rename_i hc
                  obtain ⟨c1, c2, c3⟩ := hc
                  have c1 := Nat.le_of_ble_eq_true c1
                  have c2 := Nat.le_of_ble_eq_true c2
                  have c3 := Nat.le_of_ble_eq_true c3
                  obtain ⟨_, cc, fz, _, hcz, hsz, _⟩ := F.row b N tt ee g s0 z0 hrow hm
                  have hue : P.underlying t = some (.array (P.arrayLen t) (P.elem t)) := by simp [Program.elem, Program.arrayLen, hu]
                  have hal : P.arrayLen t = n := by simp [Program.arrayLen, hu]
                  have hel : P.elem t = e := by simp [Program.elem, hu]
                  have hrun : (Instr.sliceAt t (.pointer (some ⟨g, s0 + o, none⟩)) (lo.map ρ') (hi.map ρ') none).run P w = .ok (slicedAt ⟨g, s0 + o, none⟩ l r n (P.cellsOf e)) w := by
                    have b1 := bound_ok (fun o e => hr o (.inr (.inl e))) hlo hl
                    have b2 := bound_ok (fun o e => hr o (.inr (.inr e))) hhi hh
                    rcases b1 with ⟨rfl, _, rfl⟩ | ⟨o1, k1, rfl, e1⟩ <;> rcases b2 with ⟨rfl, _, rfl⟩ | ⟨o2, k2, rfl, e2⟩
                    · simp only [Option.map_none]
                      rw [run_sliceAt_array_all w t _ hue, hal, hel, run_sizeOf w hinf]
                      rfl
                    · simp only [Option.map_none, Option.map_some, e2]
                      rw [run_sliceAt_array_h w t _ hue _ _ (by omega) (by rw [hal]; omega), hal, hel, run_sizeOf w hinf]
                      rfl
                    · simp only [Option.map_none, Option.map_some, e1]
                      rw [run_sliceAt_array_l w t _ hue _ _ (by omega) (by rw [hal]; omega), hal, hel, run_sizeOf w hinf]
                      rfl
                    · simp only [Option.map_some, e1, e2]
                      rw [run_sliceAt_array_lh w t _ hue _ _ _ _ (by omega) (by omega) (by rw [hal]; omega), hal, hel, run_sizeOf w hinf]
                      rfl
                  refine val_ok h hrun ?_
                  unfold slicedAt
                  by_cases hnl : n = l
                  · rw [if_pos hnl]
                    have hrl : r - l = 0 := by omega
                    by_cases hl0 : l = 0
                    · rw [if_neg (by rw [hl0]; simp [Nat.blt])]
                      have := Rel.sl (o := o + l * P.cellsOf e) (n := r - l) (cap := n - l) (sz := P.cellsOf e) hm (by omega) (by
                        subst hl0; subst hnl; simp only [Nat.zero_mul] at *; omega)
                      subst hl0
                      rw [Nat.zero_mul, Nat.add_zero] at this ⊢
                      exact this
                    · rw [if_pos ⟨by rw [hnl]; exact Nat.beq_refl l, by simp [Nat.blt]; omega⟩, hrl]
                      exact .esl _ _
                  · rw [if_neg hnl]
                    split
                    · rename_i hq
                      exact absurd (Nat.eq_of_beq_eq_true hq.1).symm hnl
                    · have := Rel.sl (o := o + l * P.cellsOf e) (n := r - l) (cap := n - l) (sz := P.cellsOf e) hm (by omega) (by
                        have h5 : (n - l) * P.cellsOf e + l * P.cellsOf e = n * P.cellsOf e := by rw [← Nat.add_mul]; congr 1; omega
                        omega)
                      rw [Addr.add_mid, Nat.add_assoc]
                      exact this
                · cases h
              · cases h
            · cases h
          · cases h
        · cases h
      · -- a text
        rename_i n v
        cases hrx with | str s h1 h2 =>
        unfold sliceStr at h
        split at h
        · rename_i l r hl hh
          split at h
          · rename_i hu
            split at h
            · rename_i hc
              have c1 := Nat.le_of_ble_eq_true hc.1
              have c2 := Nat.le_of_ble_eq_true hc.2
              have hsz : s.size = n := by rw [size_bytes, h1]
              have hbb := hb (isS := false) (cap := n) hl hh c1 c2 (Nat.le_refl _)
              refine val_ok (v' := .string (s.extract l r)) h ?_ (.str _ ?_ ?_)
              · rw [run_sliceAt_string w t _ _ _ _ hu]
                simp [Instr.slice, run_underlying hu, hsz, hbb]
              · simp [ByteArray.data_extract]
                have : s.data.size = n := by rw [← h1]; simp
                omega
              · have he : (s.extract l r).data.toList = (s.data.toList.drop l).take (r - l) := by
                  simp [ByteArray.data_extract, List.take_drop]
                  try (congr 1; omega)
                rw [he, enc_take, enc_drop, h2]
            · cases h
          · cases h
        · cases h
      · -- a row
        rename_i b o k sz
        cases hrx with | @sl _ _ _ _ cap g s0 z0 hm hcap hzz =>
        unfold sliceRow at h
        split at h
        · rename_i l r hl hh
          split at h
          · rename_i e he
            have hu := elemOf_ok he
            split at h
            · rename_i hc
              obtain ⟨c1, c2, c3, c4⟩ := hc
              have c1 := Nat.le_of_ble_eq_true c1
              have c2 := Nat.le_of_ble_eq_true c2
              obtain ⟨i, hinf⟩ := Option.isSome_iff_exists.1 c4
              have hbb := hb (isS := true) (cap := cap) hl hh c1 c2 hcap
              have hue : P.underlying t = some (.slice (P.elem t)) := by simp [Program.elem, hu]
              have hrun : (Instr.sliceAt t (.slice (some ⟨g, s0 + o, none⟩) k cap) (lo.map ρ') (hi.map ρ') none).run P w = .ok (.slice (if cap = l then some ⟨g, s0 + o, none⟩ else some ⟨g, s0 + o + l * sz, none⟩) (r - l) (cap - l)) w := by
                rw [run_sliceAt_slice w t _ _ _ _ hue]
                simp only [Instr.slice, Sem.run_bind, run_underlying hu, Result.andThen_ok, hbb, run_sizeOf w hinf, Sem.run_pure, c3]
                congr 2
                split
                · rfl
                · simp [Addr.add_mid]
              refine val_ok h hrun ?_
              clear hb hbb
              by_cases hcl : cap = l
              · rw [if_pos hcl]
                have hkl : k = l := by omega
                have hrl : r = l := by omega
                by_cases hl0 : l = 0
                · rw [if_neg (by rw [hl0]; simp [Nat.blt])]
                  subst hl0
                  have := Rel.sl (n := r - 0) (cap := cap - 0) hm (by omega) (by simpa using hzz)
                  simpa using this
                · rw [if_pos ⟨by rw [hkl]; exact Nat.beq_refl l, by simp [Nat.blt]; omega⟩, hrl, Nat.sub_self]
                  exact .esl _ _
              · rw [if_neg hcl]
                split
                · rename_i hq
                  have hq1 := Nat.eq_of_beq_eq_true hq.1
                  have : r - l = 0 := by omega
                  rw [this]
                  exact .esl _ _
                · have := Rel.sl (o := o + l * sz) (n := r - l) (cap := cap - l) (sz := sz) hm (by omega) (by
                    have h5 : (cap - l) * sz + l * sz = cap * sz := by rw [← Nat.add_mul]; congr 1; omega
                    omega)
                  rw [Nat.add_assoc]
                  exact this
            · cases h
          · cases h
        · cases h
      · -- nil
        unfold sliceNil at h
        split at h
        · rename_i hl hh
          split at h
          · rename_i e he
            have hu := elemOf_ok he
            split at h
            · rename_i hi0
              obtain ⟨i, hinf⟩ := Option.isSome_iff_exists.1 hi0
              cases hrx
              have hbb := hb (isS := true) (cap := 0) hl hh (Nat.le_refl _) (Nat.le_refl _) (Nat.le_refl _)
              have hue : P.underlying t = some (.slice (P.elem t)) := by simp [Program.elem, hu]
              refine val_ok (v' := .slice none 0 0) h ?_ .nsl
              rw [run_sliceAt_slice w t _ _ _ _ hue]
              simp [Instr.slice, run_underlying hu, hbb, run_sizeOf w hinf]
            · cases h
          · cases h
        · cases h
      · unfold sliceNil at h
        split at h
        · rename_i hl hh
          split at h
          · rename_i e he
            have hu := elemOf_ok he
            split at h
            · rename_i hi0
              obtain ⟨i, hinf⟩ := Option.isSome_iff_exists.1 hi0
              cases hrx with | esl a cap =>
              have hbb := hb (isS := true) (cap := cap) hl hh (Nat.le_refl _) (Nat.le_refl _) (Nat.zero_le _)
              have hue : P.underlying t = some (.slice (P.elem t)) := by simp [Program.elem, hu]
              have hrun : (Instr.sliceAt t (.slice (some a) 0 cap) (lo.map ρ') (hi.map ρ') none).run P w = .ok (.slice (if cap = 0 then some a else some (a.add (0 * P.cellsOf e))) 0 cap) w := by
                rw [run_sliceAt_slice w t _ _ _ _ hue]
                simp only [Instr.slice, Sem.run_bind, run_underlying hu, Result.andThen_ok, hbb, run_sizeOf w hinf, Sem.run_pure]
                congr 2
              refine val_ok h hrun ?_
              split <;> exact .esl _ _
            · cases h
          · cases h
        · cases h
      · cases h
    · cases h
theorem ofNat_cast (i : Nat) : Int.ofNat i = (i : Int) := rfl
theorem fieldAddr_ok {s : TypeId} {f : Nat} {x : Option AV} {x' : Value} (hx : ∀ v, x = some v → Rel m v x') (h : opFieldAddr P H s f x = some (nx, H')) : PureOK m w H nx H' ((Instr.fieldAt s x' f).run P w) := by
  unfold opFieldAddr at h
  split at h
  · cases hx _ rfl with | ptr hm =>
    split at h
    · rename_i fs hu
      split at h
      · rename_i fd hf
        split at h
        · rename_i hc
          have hpos : 0 < P.cellsOf fd.type := blt_lt hc
          have hi : ∃ i, P.info? fd.type = some i := by
            cases hi : P.info? fd.type with
            | some i => exact ⟨i, rfl⟩
            | none => simp [Program.cellsOf, hi] at hpos
          obtain ⟨i, hi⟩ := hi
          refine val_ok h ?_ (.ptr hm)
          have hne : ¬ P.cellsOf fd.type = 0 := by omega
          simp only [Instr.fieldAt, Sem.run_bind, run_underlying hu, Result.andThen_ok, hf, Instr.sureAddr, Sem.run_pure, fieldPlace, run_sizeOf w hi, if_neg hne, Addr.add_mid, Nat.add_assoc]
        · cases h
      · cases h
    · cases h
  · cases hx _ rfl with | gptr g o =>
    split at h
    · rename_i fs hu
      split at h
      · rename_i fd hf
        split at h
        · rename_i hc
          have hpos : 0 < P.cellsOf fd.type := blt_lt hc
          have hi : ∃ i, P.info? fd.type = some i := by
            cases hi : P.info? fd.type with
            | some i => exact ⟨i, rfl⟩
            | none => simp [Program.cellsOf, hi] at hpos
          obtain ⟨i, hi⟩ := hi
          refine val_ok h ?_ (.gptr _ _)
          have hne : ¬ P.cellsOf fd.type = 0 := by omega
          simp only [Instr.fieldAt, Sem.run_bind, run_underlying hu, Result.andThen_ok, hf, Instr.sureAddr, Sem.run_pure, fieldPlace, run_sizeOf w hi, if_neg hne, Addr.add_mid]
        · cases h
      · cases h
    · cases h
  · cases h
theorem field_ok {t : TypeId} {f : Nat} {x : Option AV} {x' : Value} (hx : ∀ v, x = some v → Rel m v x') (h : opField P H t f x = some (nx, H')) : PureOK m w H nx H' ((Instr.field t x' f).run P w) := by
  unfold opField at h
  split at h
  · cases hx _ rfl with | agg hl =>
    split at h
    · rename_i fs hu
      split at h
      · rename_i fd hf
        cases hp : partA P fd.type _ fd.offset with
        | none => rw [hp] at h; cases h
        | some v =>
          rw [hp] at h
          obtain ⟨v', h1, h2⟩ := part_ok hl hp w
          exact val_ok (v' := v') h (by simp [Instr.field, run_underlying hu, hf, asAgg, h1]) h2
      · cases h
    · cases h
  · cases h
theorem indexAddr_ok {t : TypeId} {x y : Option AV} {x' y' : Value} (hx : ∀ v, x = some v → Rel m v x') (hy : ∀ v, y = some v → Rel m v y') (h : opIndexAddr P H t x y = some (nx, H')) : PureOK m w H nx H' ((Instr.indexAt t x' y').run P w) := by
  unfold opIndexAddr at h
  split at h
  · rename_i b o k i
    cases hx _ rfl with | ptr hm =>
    have := rel_int (hy _ rfl); subst this
    split at h
    · rename_i n e hu
      split at h
      · rename_i hc
        obtain ⟨c1, c2⟩ := hc
        have c1 : i < n := blt_lt c1
        obtain ⟨ie, hi⟩ := Option.isSome_iff_exists.1 c2
        refine val_ok h ?_ (.ptr hm)
        have c3 : (0 : Int) ≤ (i : Int) ∧ (i : Int) < (n : Int) := by omega
        simp only [Instr.indexAt, asIntOf, Sem.run_bind, Sem.run_pure, run_underlying hu, Result.andThen_ok, Instr.sureAddr, if_pos c3, run_sizeOf w hi, Addr.add_mid, ofNat_cast, Int.toNat_natCast, Nat.add_assoc]
      · cases h
    · cases h
  · rename_i b o k i
    cases hx _ rfl with | gptr g o =>
    have := rel_int (hy _ rfl); subst this
    split at h
    · rename_i n e hu
      split at h
      · rename_i hc
        obtain ⟨c1, c2⟩ := hc
        have c1 : i < n := blt_lt c1
        obtain ⟨ie, hi⟩ := Option.isSome_iff_exists.1 c2
        refine val_ok h ?_ (.gptr _ _)
        have c3 : (0 : Int) ≤ (i : Int) ∧ (i : Int) < (n : Int) := by omega
        simp only [Instr.indexAt, asIntOf, Sem.run_bind, Sem.run_pure, run_underlying hu, Result.andThen_ok, Instr.sureAddr, if_pos c3, run_sizeOf w hi, Addr.add_mid, ofNat_cast, Int.toNat_natCast]
      · cases h
    · cases h
  · rename_i b o n sz k i
    cases hx _ rfl with | sl hm hcap hzz =>
    have := rel_int (hy _ rfl); subst this
    split at h
    · rename_i e he
      have hu := elemOf_ok he
      split at h
      · rename_i hc
        obtain ⟨c1, c2⟩ := hc
        have c1 : i < n := blt_lt c1
        obtain ⟨ie, hi⟩ := Option.isSome_iff_exists.1 c2
        refine val_ok h ?_ (.ptr hm)
        have c3 : (0 : Int) ≤ (i : Int) ∧ (i : Int) < (n : Int) := by omega
        simp only [Instr.indexAt, asIntOf, Sem.run_bind, Sem.run_pure, run_underlying hu, Result.andThen_ok, if_pos c3, run_sizeOf w hi, Addr.add_mid, ofNat_cast, Int.toNat_natCast, Nat.add_assoc]
      · cases h
    · cases h
  · cases h
theorem index_ok {t : TypeId} {x y : Option AV} {x' y' : Value} (hx : ∀ v, x = some v → Rel m v x') (hy : ∀ v, y = some v → Rel m v y') (h : opIndex P H t x y = some (nx, H')) : PureOK m w H nx H' ((Instr.index t x' y').run P w) := by
  unfold opIndex at h
  split at h
  · rename_i cs k i
    cases hx _ rfl with | agg hl =>
    have := rel_int (hy _ rfl); subst this
    split at h
    · rename_i n e hu
      split at h
      · rename_i hc
        have c1 : i < n := blt_lt hc
        cases hp : partA P e _ (i * P.cellsOf e) with
        | none => rw [hp] at h; cases h
        | some v =>
          rw [hp] at h
          obtain ⟨v', h1, h2⟩ := part_ok hl hp w
          have hi : ∃ ie, P.info? e = some ie := by
            unfold partA at hp
            split at hp
            · rename_i ha; exact info_of_agg ha
            · rename_i ha; exact info_of_agg ha
            · cases hp
          obtain ⟨ie, hi⟩ := hi
          have c3 : (0 : Int) ≤ (i : Int) ∧ (i : Int) < (n : Int) := by omega
          refine val_ok h ?_ h2
          simp only [Instr.index, asIntOf, Sem.run_bind, Sem.run_pure, run_underlying hu, Result.andThen_ok, if_pos c3, run_sizeOf w hi, ofNat_cast, Int.toNat_natCast, h1]
      · cases h
    · cases h
  · rename_i n v k i
    cases hx _ rfl with | str s h1 h2 =>
    have := rel_int (hy _ rfl); subst this
    split at h
    · rename_i hu
      split at h
      · rename_i hc
        have c1 : i < n := blt_lt hc
        have hlt : i < s.data.toList.length := by omega
        have hg : s[i]? = some (s.data.toList[i]) := by
          have hsz : i < s.size := by rw [size_bytes]; exact hlt
          rw [getElem?_pos s i hsz]
          rfl
        refine val_ok (v' := .int .u8 ((s.data.toList[i]).toNat : Int)) h ?_ ?_
        · have c0 : (0 : Int) ≤ (i : Int) := by omega
          simp only [Instr.index, asIntOf, Sem.run_bind, Sem.run_pure, run_underlying hu, Result.andThen_ok, if_pos c0, ofNat_cast, Int.toNat_natCast, hg]
        · rw [← h2, enc_get _ _ hlt]; exact .int .u8 _
      · cases h
    · cases h
  · cases h
theorem concrete_ok {t : TypeId} (h : isConcrete P t = true) : ∃ d, P.underlying t = some d ∧ ∀ ms, d ≠ .interface ms := by
  unfold isConcrete at h
  split at h
  · cases h
  · cases h
  · rename_i d hd hu
    exact ⟨d, hu, fun ms e => hd ms e⟩
theorem iface_ok {t : TypeId} {x : Option AV} {x' : Value} (hx : ∀ v, x = some v → Rel m v x') (h : opIface P H t x = some (nx, H')) : PureOK m w H nx H' ((Instr.makeInterface t x').run P w) := by
  unfold opIface at h
  split at h
  · split at h
    · rename_i hc
      obtain ⟨d, hu, hd⟩ := concrete_ok hc
      refine val_ok h ?_ (.ifc (hx _ rfl))
      simp only [Instr.makeInterface, Sem.run_bind, run_underlying hu, Result.andThen_ok]
      cases d <;> first | rfl | exact absurd rfl (hd _)
    · cases h
  · cases h
theorem assert_ok {t u : TypeId} {ok : Bool} {x : Option AV} {x' : Value} (hx : ∀ v, x = some v → Rel m v x') (h : opAssert P H t ok x = some (nx, H')) : PureOK m w H nx H' ((Instr.typeAssert x' u t ok).run P w) := by
  unfold opAssert at h
  split at h
  · split at h
    · rename_i hc
      obtain ⟨d, hu, hd⟩ := concrete_ok hc
      cases hx _ rfl with | ifc hv =>
      unfold concAssert at h
      split at h
      · rename_i htu
        subst htu
        cases ok with
        | true =>
          refine val_ok h ?_ (.tup (.cons hv (.cons (.bool true) .nil)))
          simp only [Instr.typeAssert, Sem.run_bind, run_underlying hu, Result.andThen_ok]
          cases d <;> first | (simp; done) | exact absurd rfl (hd _)
        | false =>
          refine val_ok h ?_ hv
          simp only [Instr.typeAssert, Sem.run_bind, run_underlying hu, Result.andThen_ok]
          cases d <;> first | (simp; done) | exact absurd rfl (hd _)
      · cases h
    · cases h
  · cases h
theorem extract_ok {i : Nat} {x : Option AV} {x' : Value} (hx : ∀ v, x = some v → Rel m v x') (h : opExtract H i x = some (nx, H')) : PureOK m w H nx H' ((Instr.extract x' i).run P w) := by
  unfold opExtract at h
  split at h
  · rename_i l
    cases hx _ rfl with | tup hl =>
    cases hi : l[i]? with
    | none => rw [hi] at h; cases h
    | some v =>
      rw [hi] at h
      obtain ⟨y, h1, h2⟩ := hl.get i v hi
      exact val_ok (v' := y) h (by simp [Instr.extract, h1]) h2
  · cases h
end

end
end Go.Proofs.Ytpnccmlajhhpdaa.Abs
