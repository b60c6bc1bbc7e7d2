/- What voteOnce_proved stands on, part 7 of 8. -/
import Derived.Test.YteecmjmglmpbpaaKO6
import Derived.OpenShut
import Derived.LaidMore
namespace Go.Proofs.Yteecmjmglmpbpaa.Abs
noncomputable section
open Go.RowKit
inductive KI where
 | code (p : List Nat)
 | inLoop (p : List Nat)
 | inBlock (id : Nat)
 | ops (p : List Nat) (j : Nat)
structure MF where
 f : FuncId
 N : Nat
 a : AAct
 k : List KI
structure MS where
 top : MF
 st : List (Option Tmp × MF)
 h : AHeap
structure LF where
 f : FuncId
 N : Nat
 l : Fr
 ds : List (FuncId × List AV × List AV)
 k : List KI
inductive LO where
 | row (l : List AV) (e : TypeId)
 | map (es : List (AV × AV))
 | glob (l : List AV)
 | dfr
structure LS where
 top : LF
 st : List (Option Tmp × LF)
 next : Nat
 ex : List Nat
 obs : List (Nat × LO)
def LO.obj : LO → AObj
 | .row l e => rowOf l e
 | .map es => .map es
 | .glob l => .glob (T.put .e 0 l)
 | .dfr => .obj .dfr
def obTree : List (Nat × LO) → T AObj
 | [] => .e
 | (b, o) :: r => (obTree r).set b o.obj
def LF.mf (x : LF) : MF := ⟨x.f, x.N, ⟨x.l.tree, x.ds⟩, x.k⟩
def LS.ms (x : LS) : MS := ⟨x.top.mf, x.st.map fun y => (y.1, y.2.mf), ⟨x.next, x.ex, obTree x.obs⟩⟩
def sameN : List Nat → List Nat → Bool
 | [], [] => true
 | a :: l, b :: m => Nat.beq a b && sameN l m
 | _, _ => false
def sameKI : KI → KI → Bool
 | .code p, .code q => sameN p q
 | .inLoop p, .inLoop q => sameN p q
 | .inBlock i, .inBlock j => Nat.beq i j
 | .ops p i, .ops q j => sameN p q && Nat.beq i j
 | _, _ => false
end
end Go.Proofs.Yteecmjmglmpbpaa.Abs
namespace Go.Proofs.Yteecmjmglmpbpaa.Abs
noncomputable section
open Go.RowKit
section
variable {P : Program} {n : Nat} {F : Fence}
end
section
variable {P : Program}
def LeavesX (P : Program) (fn : Func) (tmps : Array Value) (R : Ending → World → Prop) : List Deferred → FrameMode → World → Prop
  | [], u, w => Leaves P fn tmps R [] u w
  | d :: ds, u, w => u ≠ .run ∧
      ((∃ r w', d.target = .collected r ∧ (Instr.takeDeferred r).run P w = .ok [] w' ∧ LeavesX P fn tmps R ds u w') ∨
       (∃ fv cap f args, d.target = .fn fv cap ∧ (invoke d.target d.args).run P w = .ok (.enter f args) w ∧
        CallsD P f args u w fun
          | .returned _, u', w' => LeavesX P fn tmps R ds (settle u') w'
          | .panicked chain, u', w' => LeavesX P fn tmps R ds (raised u' chain) w'
          | .outgrown, _, w' => R .outgrown w'))
def bodyPostX (P : Program) (fn : Func) (R : Ending → World → Prop) : Exit → Act → World → Prop
 | .normal, a, w | .ret, a, w => LeavesX P fn a.tmps R a.defers .returning w
 | .panic chain, a, w => LeavesX P fn a.tmps R a.defers (.panicking chain) w
 | .outgrown, _, w => R .outgrown w
 | _, _, _ => False
end
section
variable {P : Program} {w0 : Base} {R0 : Ending → World → Prop} {both : BothF} {lf : Nat}
def Bo (P : Program) (f : FuncId) (R : Ending → World → Prop) : Exit → Act → World → Prop := match P.funcs[f]? with
 | some fn => bodyPostX P fn R
 | none => fun _ _ _ => False
theorem Bo.ret {f : FuncId} {R : Ending → World → Prop} {a : Act} {w : World} (h : Bo P f R .normal a w) : Bo P f R .ret a w := by
 revert h
 unfold Bo
 cases P.funcs[f]? with
 | none => exact id
 | some fn => exact id
variable {c : Code} {Q : Exit → Act → World → Prop} {act : Act} {w : World}
end
end
end Go.Proofs.Yteecmjmglmpbpaa.Abs
namespace Go.Proofs.Yteecmjmglmpbpaa.Abs
noncomputable section
open Go.RowKit
end
end Go.Proofs.Yteecmjmglmpbpaa.Abs
namespace Go.Proofs.Yteecmjmglmpbpaa.Abs
noncomputable section
open Go.RowKit
section
variable {P : Program} {w0 : Base} {R0 : Ending → World → Prop} {both : BothF}
end
end
end Go.Proofs.Yteecmjmglmpbpaa.Abs
namespace Go.Proofs.Yteecmjmglmpbpaa.Abs
noncomputable section
open Go.RowKit
end
end Go.Proofs.Yteecmjmglmpbpaa.Abs
namespace Go.Proofs.Yteecmjmglmpbpaa.Abs
noncomputable section
open Go.RowKit
end
end Go.Proofs.Yteecmjmglmpbpaa.Abs
namespace Go.Proofs.Yteecmjmglmpbpaa.Abs
noncomputable section
open Go.RowKit
section
variable {H : Type} {enc : TypeId × Value → H} {P : Program} {W : World}
end
end
end Go.Proofs.Yteecmjmglmpbpaa.Abs
namespace Go.Proofs.Yteecmjmglmpbpaa
open Go.RowKit Abs
def numB : Nat → Nat → Bytes
 | 0, _ => []
 | w + 1, v => numB w (v / 256) ++ [UInt8.ofNat (v % 256)]
theorem numB_length : ∀ (w v : Nat), (numB w v).length = w
 | 0, _ => rfl
 | w + 1, v => by simp [numB, numB_length w]
theorem el37 : Abs.elemOf Try.prog 74 = some 5 := by kernel_rfl
theorem zero5 : zeroA Try.prog 5 = some (.int .u8 0) := by kernel_rfl
theorem cells5 : Try.prog.cellsOf 5 = 1 := by kernel_rfl
theorem fit5 : fitB Try.prog 5 1 = true := by kernel_rfl
theorem bytes37 : isBytes Try.prog 74 = true := by kernel_rfl
theorem str9 : isStr Try.prog 9 = true := by kernel_rfl
theorem set_rep (j : Nat) (x : UInt8) (rest : Bytes) : (bytesC (List.replicate (j + 1) 0 ++ rest)).set j (.int .u8 (x.toNat : Int)) = bytesC (List.replicate j 0 ++ (x :: rest)) := by
 have e : List.replicate (j + 1) (0 : UInt8) ++ rest = List.replicate j 0 ++ (0 :: rest) := by
  rw [List.replicate_succ', List.append_assoc]
  rfl
 rw [e]
 unfold bytesC
 rw [List.map_append, List.map_append, List.set_append_right _ _ (by simp)]
 simp
theorem byte_of (v : Nat) : ((UInt8.ofNat (v % 256)).toNat : Int) = ((v % 256 : Nat) : Int) := by
 rw [UInt8.toNat_ofNat']
 simp
section
variable {b n d : Nat} {k9 : AHeap → R}
theorem number_loop : ∀ (j f v : Nat) (h : AHeap) (rest : Bytes), j < f → j ≤ 8 → v < 18446744073709551616 → RowH h b 5 (bytesC (List.replicate j 0 ++ rest)) →
  ∃ h', wire_number_L0 (.sl b 0 (j + rest.length) 1) k9 f (v : Int) ((j : Int) - 1) h = k9 h' ∧ RowH h' b 5 (bytesC (numB j v ++ rest)) ∧ Tch [b] h h' ∧ h'.next = h.next
 | 0, f + 1, v, h, rest, _, _, _, k => by
  refine ⟨h, ?_, k, Tch.refl _ _, rfl⟩
  rw [wire_number_L0_s]
  unfold wire_number_L0b
  rw [lett_eq, decide_eq_false (by omega), ifB_false]
 | j + 1, f + 1, v, h, rest, hf, hj, hv, k => by
  obtain ⟨h1, q1, q2, q3, q4, q5⟩ := k.st1 (o := j) (v := .int .u8 ((v % 256 : Nat) : Int)) (by rw [bytesC_length]; simp; omega) rfl
  rw [← byte_of, set_rep] at q2
  obtain ⟨h2, p1, p2, p3, p4⟩ := number_loop j f (v / 256) h1 (UInt8.ofNat (v % 256) :: rest) (by omega) (by omega) (by omega) q2
  refine ⟨h2, ?_, by rw [numB, List.append_assoc]; exact p2, (tch_of (S := [b]) q3 q4 q5 (.inl (by simp))).trans p3, p4.trans q3⟩
  rw [wire_number_L0_s]
  unfold wire_number_L0b
  have e1 : IntKind.u8.wrap (v : Int) = ((v % 256 : Nat) : Int) := by rw [wrap_u8_mod]; omega
  have e2 : shrI .u64 (v : Int) 8 = some ((v / 256 : Nat) : Int) := by
   have : shrI .u64 (v : Int) 8 = some ((v : Int).fdiv 256) := rfl
   rw [this, Int.fdiv_eq_ediv_of_nonneg _ (by omega)]
   rfl
  have e3 : ((j + 1 : Nat) : Int) - 1 = (j : Int) := by omega
  have e4 : IntKind.i64.wrap ((j : Int) - 1) = (j : Int) - 1 := wrap_i64 (by omega) (by omega)
  rw [e3, lett_eq, decide_eq_true (by omega), ifB_true, lett_eq, idxP_sl (by omega), obind_val, e1, Nat.zero_add, Nat.mul_one, q1, obind_val, e2, obind_val, lett_eq, e4]
  rw [show j + 1 + rest.length = j + (UInt8.ofNat (v % 256) :: rest).length by simp; omega]
  exact p1
end
section
variable {n d : Nat} {h : AHeap}
theorem zeros_row (w : Nat) (h : AHeap) : RowH (newH h 5 (bytesC (List.replicate w 0))) h.next 5 (bytesC (List.replicate w 0 ++ [])) := by
 rw [List.append_nil]
 exact RowH.new _ _ _
theorem conv37 {h : AHeap} {b : Nat} {l : Bytes} (k : RowH h b 5 (bytesC l)) : opConv Try.prog h 74 9 (some (.sl b 0 l.length 1)) = some (.val (strA l), h) :=
 conv_row bytes37 str9 (by rw [k.part (by rw [bytesC_length]; omega), List.drop_zero, ← bytesC_length l, List.take_length])
theorem number_w {v w : Nat} (hn : 8 < n) (hw : w ≤ 8) (hv : v < 18446744073709551616) (hx : memB 5 h.ex = false) : world n (d + 1) 76 [.int .u64 (v : Int), .int .i64 (w : Int)] h = some (.ret (strA (numB w v)), h) := by
 rw [w_wire_number]
 unfold wire_number
 rw [make_bytes (k1 := .i64) (k2 := .i64) el37 zero5 cells5 fit5 hx (Nat.le_refl w) (by omega), outK_val, lett_eq, wrap_i64 (by omega) (by omega)]
 suffices hK : ∃ h', lett (fun (h_10 : AHeap) => outK (opConv Try.prog h_10 74 9 (some (.sl h.next 0 w 1))) fun v23 h_12 => obind (avStr v23) fun t23 => some (ARes.ret (strA t23), h_12)) (fun k9 => wire_number_L0 (.sl h.next 0 w 1) k9 n (v : Int) ((w : Int) - 1) (newH h 5 (bytesC (List.replicate w 0)))) = some (.ret (strA (numB w v)), h') ∧ Above h h' by
  obtain ⟨h', e, ha⟩ := hK
  rw [e]
  exact gcR_scal ha rfl
 obtain ⟨h', e1, e2, e3, e4⟩ := number_loop (b := h.next) (k9 := fun (h_10 : AHeap) => outK (opConv Try.prog h_10 74 9 (some (.sl h.next 0 w 1))) fun v23 h_12 => obind (avStr v23) fun t23 => some (ARes.ret (strA t23), h_12)) w n v (newH h 5 (bytesC (List.replicate w 0))) [] (by omega) hw hv (zeros_row w h)
 rw [List.append_nil] at e2
 have hc := conv37 e2
 rw [numB_length] at hc
 refine ⟨h', ?_, ((Tch.newH [] h 5 (bytesC (List.replicate w 0))).trans' e3 (by intro b hb; simp at hb; subst hb; exact .inr (Nat.le_refl _))).above⟩
 rw [lett_eq]
 refine e1.trans ?_
 rw [hc, outK_val, avStr_str, obind_val]
theorem u8_w {v : Nat} (hn : 8 < n) (hv : v < 256) (hx : memB 5 h.ex = false) : world n (d + 2) 59 [.int .u8 (v : Int)] h = some (.ret (strA (numB 1 v)), h) := by
 rw [w_wire_U8]
 unfold wire_U8
 have e : IntKind.u64.wrap (v : Int) = (v : Int) := by rw [wrap_u64_mod]; omega
 rw [lett_eq, e, show ((1 : Int)) = ((1 : Nat) : Int) from rfl, number_w hn (by omega) (by omega) hx, callN_ret, avStr_str, obind_val]
 exact gcR_self
theorem u32_w {v : Nat} (hn : 8 < n) (hv : v < 4294967296) (hx : memB 5 h.ex = false) : world n (d + 2) 75 [.int .u32 (v : Int)] h = some (.ret (strA (numB 4 v)), h) := by
 rw [w_wire_U32]
 unfold wire_U32
 have e : IntKind.u64.wrap (v : Int) = (v : Int) := by rw [wrap_u64_mod]; omega
 rw [lett_eq, e, show ((4 : Int)) = ((4 : Nat) : Int) from rfl, number_w hn (by omega) (by omega) hx, callN_ret, avStr_str, obind_val]
 exact gcR_self
theorem u64_w {v : Nat} (hn : 8 < n) (hv : v < 18446744073709551616) (hx : memB 5 h.ex = false) : world n (d + 2) 58 [.int .u64 (v : Int)] h = some (.ret (strA (numB 8 v)), h) := by
 rw [w_wire_U64]
 unfold wire_U64
 rw [show ((8 : Int)) = ((8 : Nat) : Int) from rfl, number_w hn (by omega) hv hx, callN_ret, avStr_str, obind_val]
 exact gcR_self
end
structure RS where
 p : Nat
 e : Int
 q : Int
def valF : Nat → Bytes → Nat
 | a, [] => a
 | a, b :: l => valF (a * 256 + b.toNat) l
def valB (l : Bytes) : Nat := valF 0 l
theorem valF_append : ∀ (l k : Bytes) (a : Nat), valF a (l ++ k) = valF (valF a l) k
 | [], _, _ => rfl
 | b :: l, k, a => by rw [List.cons_append, valF, valF_append l k, valF]
theorem valF_lt : ∀ (l : Bytes) (a : Nat), valF a l < (a + 1) * 256 ^ l.length
 | [], a => by simp [valF]
 | b :: l, a => by
  rw [valF, List.length_cons, Nat.pow_succ]
  have h := valF_lt l (a * 256 + b.toNat)
  have hb := b.toNat_lt
  have h2 : (a * 256 + b.toNat + 1) * 256 ^ l.length ≤ ((a + 1) * 256) * 256 ^ l.length := Nat.mul_le_mul_right _ (by omega)
  calc _ < _ := h
   _ ≤ _ := h2
   _ = _ := by rw [Nat.mul_assoc, Nat.mul_comm 256]
theorem valB_lt (l : Bytes) : valB l < 256 ^ l.length := by
 have := valF_lt l 0
 rw [Nat.zero_add, Nat.one_mul] at this
 exact this
theorem valB_succ {s : Bytes} {p i : Nat} (h : p + i < s.length) : valB ((s.drop p).take (i + 1)) = valB ((s.drop p).take i) * 256 + s[p + i].toNat := by
 unfold valB
 rw [List.take_succ_eq_append_getElem (by rw [List.length_drop]; omega), valF_append, List.getElem_drop]
 rfl
theorem valB_le8 {s : Bytes} {p i : Nat} : valB ((s.drop p).take i) < 256 ^ i := by
 refine Nat.lt_of_lt_of_le (valB_lt _) (Nat.pow_le_pow_right (by omega) ?_)
 rw [List.length_take]
 exact Nat.min_le_left _ _
theorem pow_le7 {i : Nat} (hi : i ≤ 7) : 256 ^ i ≤ 72057594037927936 := Nat.le_trans (Nat.pow_le_pow_right (by omega) hi) (by decide)
def rNum (s : Bytes) (w : Nat) (r : RS) : Nat × RS :=
 if r.e ≠ 0 then (0, r) else if s.length < r.p + w then (0, ⟨r.p, 7, (r.p : Int)⟩) else (valB ((s.drop r.p).take w), ⟨r.p + w, r.e, r.q⟩)
def rEnd (s : Bytes) (r : RS) : Int × Int := if r.e = 0 ∧ r.p < s.length then (7, (r.p : Int)) else (r.e, r.q)
def RS.ok (s : Bytes) (r : RS) : Prop := r.p ≤ s.length
theorem rNum_ok {s : Bytes} {w : Nat} {r : RS} (h : r.ok s) : (rNum s w r).2.ok s := by
 unfold RS.ok at *
 unfold rNum
 split
 ·exact h
 ·split
  ·exact h
  ·show r.p + w ≤ s.length
   omega
theorem rNum_lt {s : Bytes} {w : Nat} {r : RS} : (rNum s w r).1 < 256 ^ w := by
 have hp : 0 < 256 ^ w := Nat.pow_pos (by omega)
 unfold rNum
 split
 ·exact hp
 ·split
  ·exact hp
  ·exact valB_le8
theorem rNum_bad {s : Bytes} {w : Nat} {r : RS} (h : (rNum s w r).2.e = 0) : r.e = 0 ∧ r.p + w ≤ s.length ∧ rNum s w r = (valB ((s.drop r.p).take w), ⟨r.p + w, r.e, r.q⟩) := by
 unfold rNum at *
 split
 ·rename_i h1
  rw [if_pos h1] at h
  exact absurd h h1
 ·rename_i h1
  rw [if_neg h1] at h
  split
  ·rename_i h2
   rw [if_pos h2] at h
   simp at h
  ·exact ⟨by simpa using h1, by omega, rfl⟩
noncomputable def rdC (s : Bytes) (r : RS) : List AV := [strA s, .int .i64 (r.p : Int), .int .i64 r.e, .int .i64 r.q]
abbrev PR (h : AHeap) (b : Nat) (s : Bytes) (r : RS) : Prop := RowH h b 154 (rdC s r)
theorem neq72 (h : AHeap) (b : Nat) : opBin Try.prog h .neq 140 true (some (.ptr b 0)) (some .nilp) = some (.val (.bool true), h) := by kernel_rfl
theorem eql72 (h : AHeap) (b : Nat) : opBin Try.prog h .eql 140 true (some (.ptr b 0)) (some .nilp) = some (.val (.bool false), h) := by kernel_rfl
theorem shl8 {v : Int} (h0 : 0 ≤ v) (h1 : v < 72057594037927936) : shlI .u64 v 8 = some (v * 256) := by
 have : shlI .u64 v 8 = some (IntKind.u64.wrap (v * 256)) := rfl
 rw [this, wrap_u64_mod, Int.emod_eq_of_lt (by omega) (by omega)]
theorem or8 {v c : Nat} (h1 : v < 72057594037927936) (h2 : c < 256) : orI .u64 ((v : Int) * 256) (c : Int) = ((v * 256 + c : Nat) : Int) := by
 show IntKind.u64.wrap (((BitVec.ofInt 64 ((v : Int) * 256)) ||| (BitVec.ofInt 64 (c : Int))).toNat : Int) = _
 have e1 : (BitVec.ofInt 64 ((v : Int) * 256)) = BitVec.ofNat 64 (v * 256) := by
  rw [show ((v : Int) * 256) = ((v * 256 : Nat) : Int) by omega]
  exact BitVec.ofInt_natCast ..
 have e2 : (BitVec.ofInt 64 (c : Int)) = BitVec.ofNat 64 c := BitVec.ofInt_natCast ..
 rw [e1, e2, BitVec.toNat_or, BitVec.toNat_ofNat, BitVec.toNat_ofNat, Nat.mod_eq_of_lt (by omega), Nat.mod_eq_of_lt (by omega)]
 have e3 : v * 256 ||| c = v * 256 + c := by
  have := Nat.shiftLeft_add_eq_or_of_lt (i := 8) (b := c) (by omega) v
  rw [Nat.shiftLeft_eq] at this
  exact this.symm
 rw [e3, wrap_u64_mod, Int.emod_eq_of_lt (by omega) (by omega)]
section
variable {n d b : Nat} {h : AHeap} {s : Bytes} {r : RS} {Q : ARes → AHeap → Prop}
theorem whole_w (k : PR h b s r) : world n (d + 1) 82 [.ptr b 0] h = some (.ret (.bool (decide (r.e = 0))), h) := by
 apply Wp.eq
 rw [w_wire_Reader_whole]
 unfold wire_Reader_whole
 repeat (first | (with_reducible refine Wp.join1 (fun _ _ => ?_)) | (with_reducible refine Wp.lett ?_) | ((with_reducible apply Wp.obind); first | (with_reducible first | exact avInt_int _ _ | exact avBool_bool _ | exact nilC_ptr _ _ | exact fldP_ptr _ _ _) | ((with_reducible apply RowH.cell'); (with_reducible assumption); rfl)) | ((with_reducible refine Wp.ift ?_ ?_); (with_reducible rfl)) | ((with_reducible apply Wp.outK); (with_reducible exact neq72 _ _)) | (with_reducible refine Wp.go1 (by assumption) ?_))
 exact Wp.ret ⟨by rw [← Bool.beq_eq_decide_eq], rfl⟩
theorem fail_w (k : PR h b s r) (e q : Int) : ∃ h', world n (d + 1) 86 [.ptr b 0, .int .i64 e, .int .i64 q] h = some (.ret (.tup []), h') ∧ PR h' b s ⟨r.p, e, q⟩ ∧ Tch [b] h h' := by
 apply Wp.ex
 rw [w_wire_Reader_fail]
 unfold wire_Reader_fail
 repeat (((with_reducible apply Wp.obind); (with_reducible first | exact nilC_ptr _ _ | exact fldP_ptr _ _ _)))
 refine Wp.stN k (vs := [.int .i64 e, .int .i64 q]) rfl (show 0 + 2 + 2 ≤ 4 by decide) rfl (fun h' k' t' _ => ?_)
 exact Wp.ret ⟨rfl, k', t'⟩
theorem num_loop {w : Nat} (hw : w ≤ 8) (hp : r.p + w ≤ s.length) (hs : s.length ≤ 1000000000) {k33 : Int → AHeap → R} (hk : k33 = fun t5 h_34 => some (.ret (.int .u64 t5), h_34)) {h0 : AHeap} :
  ∀ (f i : Nat) (h : AHeap), w < f + i → i ≤ w → PR h b s ⟨r.p + i, r.e, r.q⟩ → Tch [b] h0 h →
   Wp (wire_Reader_number_L0 (.ptr b 0) (w : Int) k33 f (valB ((s.drop r.p).take i) : Int) (i : Int) h) fun x h' => x = .ret (.int .u64 (valB ((s.drop r.p).take w) : Int)) ∧ PR h' b s ⟨r.p + w, r.e, r.q⟩ ∧ Tch [b] h0 h'
 | 0, i, h, h1, h2, _, _ => by omega
 | f + 1, i, h, h1, h2, k, t => by
  rw [wire_Reader_number_L0_s]
  unfold wire_Reader_number_L0b
  by_cases hi : i < w
  ·have hv : valB ((s.drop r.p).take i) < 72057594037927936 := Nat.lt_of_lt_of_le valB_le8 (pow_le7 (by omega))
   have hc := (s[r.p + i]'(by omega)).toNat_lt
   have hx : idxS s ((r.p + i : Nat) : Int) = some ((s[r.p + i]'(by omega)).toNat : Int) := idxS_nat (by omega)
   have hsuc := valB_succ (s := s) (p := r.p) (i := i) (by omega)
   have k0 : RowH h b 154 [strA s, .int .i64 ((r.p + i : Nat) : Int), .int .i64 r.e, .int .i64 r.q] := k
   clear k
   repeat (first | ((with_reducible first | refine Wp.lettw ?_ ?_ ?_ | refine Wp.lettu64 ?_ ?_ ?_); omega; omega) | (with_reducible refine Wp.lett ?_) | ((with_reducible apply Wp.obind); first | (with_reducible first | exact shl8 (by omega) (by omega) | exact hx | exact avInt_int _ _ | exact avStr_str _ | exact nilC_ptr _ _ | exact fldP_ptr _ _ _) | ((with_reducible apply RowH.cell'); (with_reducible assumption); rfl)) | ((with_reducible refine Wp.ift ?_ ?_); ((with_reducible apply decide_eq_true); omega)))
   refine Wp.st1 k0 (show 1 < 4 by decide) rfl (fun h' k' t' _ => ?_)
   repeat (((with_reducible refine Wp.lettw ?_ ?_ ?_); omega; omega))
   rw [or8 hv hc, ← hsuc, show (i : Int) + 1 = ((i + 1 : Nat) : Int) by omega]
   refine num_loop hw hp hs hk f (i + 1) h' (by omega) (by omega) ?_ (t.trans t')
   have e : ([strA s, .int .i64 ((r.p + i : Nat) : Int), .int .i64 r.e, .int .i64 r.q] : List AV).set 1 (.int .i64 (((r.p + i : Nat) : Int) + 1)) = rdC s ⟨r.p + (i + 1), r.e, r.q⟩ := by
    rw [show ((r.p + i : Nat) : Int) + 1 = ((r.p + (i + 1) : Nat) : Int) by omega]
    rfl
   have k2 : RowH h' b 154 _ := k'
   rw [show 0 + 1 = 1 from rfl, e] at k2
   exact k2
  ·have : i = w := by omega
   subst this
   repeat (first | (with_reducible refine Wp.lett ?_) | ((with_reducible refine Wp.iff ?_ ?_); ((with_reducible apply decide_eq_false); omega)) | (with_reducible refine Wp.go1 (by assumption) ?_))
   exact Wp.ret ⟨rfl, k, t⟩
theorem number_r {w : Nat} (k : PR h b s r) (hok : r.ok s) (hw : w ≤ 8) (hs : s.length ≤ 1000000000) (hn : 8 < n) {W : Int} (hW : W = (w : Int)) : ∃ h', world n (d + 2) 81 [.ptr b 0, .int .i64 W] h = some (.ret (.int .u64 ((rNum s w r).1 : Int)), h') ∧ PR h' b s (rNum s w r).2 ∧ Tch [b] h h' := by
 subst hW
 unfold RS.ok at hok
 apply Wp.ex
 rw [w_wire_Reader_number]
 unfold wire_Reader_number
 have hwh := whole_w (n := n) (d := d) k
 have ll := lenS_nat s
 unfold rNum
 by_cases he : r.e = 0
 case neg =>
  rw [decide_eq_false he] at hwh
  rw [if_pos he]
  repeat (first | (with_reducible refine Wp.lett ?_) | ((with_reducible apply Wp.obind); (with_reducible exact avBool_bool _)) | ((with_reducible refine Wp.ift ?_ ?_); (with_reducible exact Bool.not_false)) | ((with_reducible apply Wp.callN); (with_reducible assumption)))
  exact Wp.ret ⟨rfl, k, Tch.refl _ _⟩
 rw [decide_eq_true he] at hwh
 rw [if_neg (by simpa using he)]
 by_cases hl : s.length < r.p + w
 ·obtain ⟨h1, e1, k1, t1⟩ := fail_w (n := n) (d := d) k 7 (r.p : Int)
  rw [if_pos hl]
  repeat (first | ((with_reducible refine Wp.lettw ?_ ?_ ?_); omega; omega) | (with_reducible refine Wp.lett ?_) | ((with_reducible apply Wp.obind); first | (with_reducible first | exact avInt_int _ _ | exact avBool_bool _ | exact avStr_str _ | exact nilC_ptr _ _ | exact fldP_ptr _ _ _) | ((with_reducible apply RowH.cell'); (with_reducible assumption); rfl)) | ((with_reducible refine Wp.ift ?_ ?_); ((with_reducible apply decide_eq_true); omega)) | ((with_reducible refine Wp.iff ?_ ?_); (with_reducible exact Bool.not_true)) | ((with_reducible apply Wp.callN); (with_reducible assumption)))
  exact Wp.ret ⟨rfl, k1, t1⟩
 ·rw [if_neg hl]
  repeat (first | (with_reducible refine Wp.join1 (fun _ _ => ?_)) | ((with_reducible refine Wp.lettw ?_ ?_ ?_); omega; omega) | (with_reducible refine Wp.lett ?_) | ((with_reducible apply Wp.obind); first | (with_reducible first | exact avInt_int _ _ | exact avBool_bool _ | exact avStr_str _ | exact nilC_ptr _ _ | exact fldP_ptr _ _ _) | ((with_reducible apply RowH.cell'); (with_reducible assumption); rfl)) | ((with_reducible refine Wp.iff ?_ ?_); first | (with_reducible exact Bool.not_true) | ((with_reducible apply decide_eq_false); omega)) | ((with_reducible apply Wp.callN); (with_reducible assumption)))
  rename_i k33 hk33
  exact num_loop hw (by omega) hs hk33 n 0 h (by omega) (by omega) k (Tch.refl _ _)
theorem u8_r (k : PR h b s r) (hok : r.ok s) (hs : s.length ≤ 1000000000) (hn : 8 < n) : ∃ h', world n (d + 3) 72 [.ptr b 0] h = some (.ret (.int .u8 ((rNum s 1 r).1 : Int)), h') ∧ PR h' b s (rNum s 1 r).2 ∧ Tch [b] h h' := by
 obtain ⟨h1, e1, k1, t1⟩ := number_r (n := n) (d := d) k hok (w := 1) (W := 1) (by omega) hs hn rfl
 have hlt : (rNum s 1 r).1 < 256 := rNum_lt (s := s) (w := 1) (r := r)
 apply Wp.ex
 rw [w_wire_Reader_U8]
 unfold wire_Reader_U8
 repeat (first | ((with_reducible refine Wp.lettu8 ?_ ?_ ?_); omega; omega) | ((with_reducible apply Wp.obind); (with_reducible exact avInt_int _ _)) | ((with_reducible apply Wp.callN); (with_reducible assumption)))
 exact Wp.ret ⟨rfl, k1, t1⟩
theorem u64_r (k : PR h b s r) (hok : r.ok s) (hs : s.length ≤ 1000000000) (hn : 8 < n) : ∃ h', world n (d + 3) 71 [.ptr b 0] h = some (.ret (.int .u64 ((rNum s 8 r).1 : Int)), h') ∧ PR h' b s (rNum s 8 r).2 ∧ Tch [b] h h' := by
 obtain ⟨h1, e1, k1, t1⟩ := number_r (n := n) (d := d) k hok (w := 8) (W := 8) (by omega) hs hn rfl
 apply Wp.ex
 rw [w_wire_Reader_U64]
 unfold wire_Reader_U64
 repeat (first | ((with_reducible apply Wp.obind); (with_reducible exact avInt_int _ _)) | ((with_reducible apply Wp.callN); (with_reducible assumption)))
 exact Wp.ret ⟨rfl, k1, t1⟩
theorem u32_r (k : PR h b s r) (hok : r.ok s) (hs : s.length ≤ 1000000000) (hn : 8 < n) : ∃ h', world n (d + 3) 79 [.ptr b 0] h = some (.ret (.int .u32 ((rNum s 4 r).1 : Int)), h') ∧ PR h' b s (rNum s 4 r).2 ∧ Tch [b] h h' := by
 obtain ⟨h1, e1, k1, t1⟩ := number_r (n := n) (d := d) k hok (w := 4) (W := 4) (by omega) hs hn rfl
 have hlt : (rNum s 4 r).1 < 4294967296 := rNum_lt (s := s) (w := 4) (r := r)
 apply Wp.ex
 rw [w_wire_Reader_U32]
 unfold wire_Reader_U32
 repeat (first | ((with_reducible refine Wp.lettu32 ?_ ?_ ?_); omega; omega) | ((with_reducible apply Wp.obind); (with_reducible exact avInt_int _ _)) | ((with_reducible apply Wp.callN); (with_reducible assumption)))
 exact Wp.ret ⟨rfl, k1, t1⟩
theorem fault_r (k : PR h b s r) (hb : b < h.next) : ∃ h', world n (d + 1) 83 [.ptr b 0] h = some (.ret (.agg [.int .i64 r.e, .int .i64 r.q]), h') ∧ Tch [] h h' := by
 apply Wp.ex
 rw [w_wire_Reader_Fault]
 unfold wire_Reader_Fault
 have t0 : Tch [] h (newH h 145 [.int .i64 0, .int .i64 0]) := Tch.newH _ _ _ _
 have k0 := k.tch t0 hb (by simp)
 have kr := RowH.new h 145 [.int .i64 0, .int .i64 0]
 repeat (first | (with_reducible refine Wp.lett ?_) | ((with_reducible apply Wp.obind); (with_reducible first | exact avBool_bool _ | exact nilC_ptr _ _ | exact fldP_ptr _ _ _)) | ((with_reducible refine Wp.iff ?_ ?_); (with_reducible rfl)) | ((with_reducible apply Wp.outK); (with_reducible exact eql72 _ _)) | rw [newP_eq])
 refine Wp.obind (k0.ld (o := 0 + 2) (n := 2) (show 0 + 2 + 2 ≤ 4 by decide)) ?_
 refine Wp.stAll kr rfl rfl rfl (fun h1 k1 t1 _ => ?_)
 repeat (((with_reducible apply Wp.obind); ((with_reducible apply RowH.ldAll); (with_reducible assumption); rfl)))
 exact Wp.ret ⟨rfl, t0.trans' t1 (by intro b hb; simp at hb; subst hb; exact .inr (Nat.le_refl _))⟩
theorem end_r (k : PR h b s r) (hb : b < h.next) : ∃ h', world n (d + 2) 73 [.ptr b 0] h = some (.ret (.agg [.int .i64 (rEnd s r).1, .int .i64 (rEnd s r).2]), h') ∧ Tch [] h h' := by
 apply Wp.ex
 rw [w_wire_Reader_End]
 unfold wire_Reader_End rEnd
 have t0 : Tch [] h (newH h 145 [.int .i64 0, .int .i64 0]) := Tch.newH _ _ _ _
 have k0 := k.tch t0 hb (by simp)
 have kr := RowH.new h 145 [.int .i64 0, .int .i64 0]
 have nr := next_newH h 145 [.int .i64 0, .int .i64 0]
 have hw := whole_w (n := n) (d := d) k0
 obtain ⟨h1, e1, t1⟩ := fault_r (n := n) (d := d) k0 (by omega)
 have k1 := kr.tch t1 (by omega) (by simp)
 have ll := lenS_nat s
 by_cases hc : r.e = 0 ∧ r.p < s.length
 ·rw [decide_eq_true hc.1] at hw
  obtain ⟨hc1, hc2⟩ := hc
  rw [if_pos ⟨hc1, hc2⟩]
  repeat (first | (with_reducible refine Wp.join1 (fun _ _ => ?_)) | (with_reducible refine Wp.lett ?_) | ((with_reducible apply Wp.obind); first | (with_reducible first | exact avInt_int _ _ | exact avBool_bool _ | exact avStr_str _ | exact nilC_ptr _ _ | exact fldP_ptr _ _ _) | ((with_reducible apply RowH.cell'); (with_reducible assumption); rfl)) | ((with_reducible refine Wp.ift ?_ ?_); first | (with_reducible rfl) | ((with_reducible apply decide_eq_true); omega)) | ((with_reducible apply Wp.callN); (with_reducible assumption)) | (with_reducible refine Wp.go1 (by assumption) ?_) | rw [newP_eq])
  refine Wp.stAll kr rfl rfl rfl (fun h2 k2 t2 _ => ?_)
  repeat (((with_reducible apply Wp.obind); ((with_reducible apply RowH.ldAll); (with_reducible assumption); rfl)))
  exact Wp.ret ⟨rfl, t0.trans' t2 (by intro b hb; simp at hb; subst hb; exact .inr (Nat.le_refl _))⟩
 ·rw [if_neg hc]
  by_cases he : r.e = 0
  ·rw [decide_eq_true he] at hw
   repeat (first | (with_reducible refine Wp.join1 (fun _ _ => ?_)) | (with_reducible refine Wp.lett ?_) | ((with_reducible apply Wp.obind); first | (with_reducible first | exact avInt_int _ _ | exact avBool_bool _ | exact avStr_str _ | exact nilC_ptr _ _ | exact fldP_ptr _ _ _ | exact avAgg_agg _) | ((with_reducible apply RowH.cell'); (with_reducible assumption); rfl)) | ((with_reducible refine Wp.ift ?_ ?_); (with_reducible rfl)) | ((with_reducible refine Wp.iff ?_ ?_); ((with_reducible apply decide_eq_false); omega)) | ((with_reducible apply Wp.callN); (with_reducible assumption)) | (with_reducible refine Wp.go1 (by assumption) ?_) | rw [newP_eq])
   refine Wp.stAll k1 rfl rfl rfl (fun h2 k2 t2 _ => ?_)
   repeat (((with_reducible apply Wp.obind); ((with_reducible apply RowH.ldAll); (with_reducible assumption); rfl)))
   exact Wp.ret ⟨rfl, (t0.trans t1).trans' t2 (by intro b hb; simp at hb; subst hb; exact .inr (Nat.le_refl _))⟩
  ·rw [decide_eq_false he] at hw
   repeat (first | (with_reducible refine Wp.join1 (fun _ _ => ?_)) | (with_reducible refine Wp.lett ?_) | ((with_reducible apply Wp.obind); (with_reducible first | exact avBool_bool _ | exact avAgg_agg _)) | ((with_reducible refine Wp.iff ?_ ?_); (with_reducible rfl)) | ((with_reducible apply Wp.callN); (with_reducible assumption)) | (with_reducible refine Wp.go1 (by assumption) ?_) | rw [newP_eq])
   refine Wp.stAll k1 rfl rfl rfl (fun h2 k2 t2 _ => ?_)
   repeat (((with_reducible apply Wp.obind); ((with_reducible apply RowH.ldAll); (with_reducible assumption); rfl)))
   exact Wp.ret ⟨rfl, (t0.trans t1).trans' t2 (by intro b hb; simp at hb; subst hb; exact .inr (Nat.le_refl _))⟩
end
end Go.Proofs.Yteecmjmglmpbpaa
namespace Go.Proofs.Yteecmjmglmpbpaa
namespace Crc
def poly : Nat := 2197175160
def ones : Nat := 4294967295
def U32 (x : Nat) : Prop := x < 2 ^ 32
def sh (x : Nat) : Nat := (x / 2) ^^^ (if x % 2 = 1 then poly else 0)
def shN : Nat → Nat → Nat
 | 0, x => x
 | n + 1, x => shN n (sh x)
def stp (x b : Nat) : Nat := sh (x ^^^ b)
def stps : List Nat → Nat → Nat
 | [], x => x
 | b :: l, x => stps l (stp x b)
def bits8 (x : Nat) : List Nat := [x % 2, x / 2 % 2, x / 4 % 2, x / 8 % 2, x / 16 % 2, x / 32 % 2, x / 64 % 2, x / 128 % 2]
def bitsOf : List UInt8 → List Nat
 | [] => []
 | x :: l => bits8 x.toNat ++ bitsOf l
def more (from_ : Nat) (l : List UInt8) : Nat := ones ^^^ stps (bitsOf l) (ones ^^^ from_)
def of (l : List UInt8) : Nat := more 0 l
theorem poly_lt : U32 poly := by unfold U32 poly; decide
theorem ones_lt : U32 ones := by unfold U32 ones; decide
theorem xor_lt {x y : Nat} (hx : U32 x) (hy : U32 y) : U32 (x ^^^ y) := Nat.xor_lt_two_pow hx hy
theorem sh_lt {x : Nat} (hx : U32 x) : U32 (sh x) := by
 unfold sh
 refine xor_lt ?_ ?_
 ·unfold U32 at *; omega
 ·split
  ·exact poly_lt
  ·unfold U32; decide
theorem shN_lt : ∀ {n x : Nat}, U32 x → U32 (shN n x)
 | 0, _, h => h
 | n + 1, _, h => shN_lt (n := n) (sh_lt h)
theorem bit_lt {b : Nat} (h : b < 2) : U32 b := by unfold U32; omega
theorem stps_lt : ∀ {l : List Nat} {x : Nat}, U32 x → (∀ b ∈ l, b < 2) → U32 (stps l x)
 | [], _, h, _ => h
 | b :: l, x, h, hb => stps_lt (l := l) (sh_lt (xor_lt h (bit_lt (hb b (by simp))))) (fun c hc => hb c (by simp [hc]))
theorem bits8_lt (x : Nat) : ∀ b ∈ bits8 x, b < 2 := by
 intro b hb
 simp only [bits8, List.mem_cons, List.not_mem_nil, or_false] at hb
 omega
theorem bitsOf_lt (l : List UInt8) : ∀ b ∈ bitsOf l, b < 2 := by
 induction l with
 | nil => intro b hb; simp [bitsOf] at hb
 | cons x l ih =>
  intro b hb
  rcases List.mem_append.1 hb with h | h
  ·exact bits8_lt _ b h
  ·exact ih b h
theorem more_lt {a : Nat} (l : List UInt8) (ha : U32 a) : U32 (more a l) := xor_lt ones_lt (stps_lt (xor_lt ones_lt ha) (bitsOf_lt l))
theorem of_lt (l : List UInt8) : U32 (of l) := more_lt l (by unfold U32; decide)
theorem mod_xor (x y : Nat) : (x ^^^ y) % 2 = (x % 2 + y % 2) % 2 := by
 have hx := Nat.mod_two_eq_zero_or_one x
 have hy := Nat.mod_two_eq_zero_or_one y
 have hz := Nat.mod_two_eq_zero_or_one (x ^^^ y)
 have h := Nat.testBit_xor x y 0
 simp only [Nat.testBit_zero] at h
 rcases hx with hx | hx <;> rcases hy with hy | hy <;> rcases hz with hz | hz <;> simp [hx, hy, hz] at h ⊢
theorem div_xor (x y : Nat) : (x ^^^ y) / 2 = (x / 2) ^^^ (y / 2) := Nat.xor_div_two
theorem sh_xor (x y : Nat) : sh (x ^^^ y) = sh x ^^^ sh y := by
 unfold sh
 rw [div_xor, mod_xor]
 have hx := Nat.mod_two_eq_zero_or_one x
 have hy := Nat.mod_two_eq_zero_or_one y
 have e : (if (x % 2 + y % 2) % 2 = 1 then poly else 0) = (if x % 2 = 1 then poly else 0) ^^^ (if y % 2 = 1 then poly else 0) := by
  rcases hx with hx | hx <;> rcases hy with hy | hy <;> simp [hx, hy]
 rw [e]
 ac_rfl
theorem shN_xor : ∀ (n x y : Nat), shN n (x ^^^ y) = shN n x ^^^ shN n y
 | 0, _, _ => rfl
 | n + 1, x, y => by
  show shN n (sh (x ^^^ y)) = shN n (sh x) ^^^ shN n (sh y)
  rw [sh_xor, shN_xor n]
theorem shN_add : ∀ (m n x : Nat), shN (m + n) x = shN n (shN m x)
 | 0, n, x => by rw [Nat.zero_add]; rfl
 | m + 1, n, x => by
  rw [Nat.add_right_comm]
  exact shN_add m n (sh x)
theorem stps_append : ∀ (l m : List Nat) (x : Nat), stps (l ++ m) x = stps m (stps l x)
 | [], _, _ => rfl
 | b :: l, m, x => stps_append l m (stp x b)
theorem bitsOf_append (l m : List UInt8) : bitsOf (l ++ m) = bitsOf l ++ bitsOf m := by
 induction l with
 | nil => rfl
 | cons x l ih => simp [bitsOf, ih]
def word : List Nat → Nat
 | [] => 0
 | b :: l => b + 2 * word l
theorem sh_double (x : Nat) : sh (2 * x) = x := by
 unfold sh
 rw [if_neg (by omega), Nat.xor_zero]
 omega
theorem add_eq_xor {b x : Nat} (hb : b < 2) : b + 2 * x = b ^^^ (2 * x) := by
 have h1 := div_xor b (2 * x)
 have h2 := mod_xor b (2 * x)
 have e1 : 2 * x / 2 = x := by omega
 have e2 : b / 2 = 0 := by omega
 rw [e1, e2, Nat.zero_xor] at h1
 omega
theorem stps_word : ∀ (l : List Nat) (x : Nat), (∀ b ∈ l, b < 2) → stps l x = shN l.length (x ^^^ word l)
 | [], x, _ => by simp [stps, shN, word]
 | b :: l, x, h => by
  show stps l (sh (x ^^^ b)) = shN l.length (sh (x ^^^ (b + 2 * word l)))
  rw [stps_word l _ (fun c hc => h c (by simp [hc])), add_eq_xor (h b (by simp)), ← Nat.xor_assoc, sh_xor (x ^^^ b), sh_double]
def halves : List Nat := [0, 274646895, 549293790, 820201905, 1098587580, 1361435347, 1640403810, 1905808397, 2197175160, 2460548119, 2722870694, 2987750089, 3280807620, 3553878443, 3811616794, 4084100981]
theorem halves_eq : halves = (List.range 16).map (shN 4) := by decide +kernel
theorem halves_get (j : Nat) (h : j < 16) : halves[j]? = some (shN 4 j) := by
 rw [halves_eq, List.getElem?_map, List.getElem?_range h]; rfl
theorem low_xor (q r : Nat) (hr : r < 16) : 16 * q + r = (16 * q) ^^^ r := by
 have h := Nat.two_pow_add_eq_or_of_lt (i := 4) (b := r) (by simpa using hr) q
 have e : (2 : Nat) ^ 4 = 16 := by decide
 rw [e] at h
 rw [h]
 apply Nat.eq_of_testBit_eq
 intro i
 rw [Nat.testBit_or, Nat.testBit_xor]
 by_cases hi : i < 4
 ·have : (16 * q).testBit i = false := by
   rw [show 16 * q = 2 ^ 4 * q from by rw [e], Nat.testBit_two_pow_mul]
   simp; omega
  rw [this]; simp
 ·have : r.testBit i = false := Nat.testBit_lt_two_pow (Nat.lt_of_lt_of_le hr (by rw [← e]; exact Nat.pow_le_pow_right (by omega) (by omega)))
  rw [this]; simp
theorem shN4_high (q : Nat) : shN 4 (16 * q) = q := by
 show sh (sh (sh (sh (16 * q)))) = q
 rw [show 16 * q = 2 * (2 * (2 * (2 * q))) from by omega, sh_double, sh_double, sh_double, sh_double]
theorem nib (x : Nat) : shN 4 x = (x / 16) ^^^ shN 4 (x % 16) := by
 conv => lhs; rw [show x = 16 * (x / 16) + x % 16 from by omega, low_xor _ _ (Nat.mod_lt _ (by omega)), shN_xor, shN4_high]
theorem word_bits8 (b : Nat) (h : b < 256) : word (bits8 b) = b := by
 simp only [word, bits8]
 omega
theorem stps_byte (b x : Nat) (h : b < 256) : stps (bits8 b) x = shN 4 (shN 4 (x ^^^ b)) := by
 rw [stps_word _ _ (bits8_lt b), word_bits8 b h, ← shN_add]
 rfl
end Crc
end Go.Proofs.Yteecmjmglmpbpaa
namespace Go.Proofs.Yteecmjmglmpbpaa
open Go.RowKit Abs
theorem xorI32 {x y : Nat} (hx : x < 4294967296) (hy : y < 4294967296) : xorI .u32 (x : Int) (y : Int) = ((x ^^^ y : Nat) : Int) := by
 have hz : x ^^^ y < 2 ^ 32 := Nat.xor_lt_two_pow (by omega) (by omega)
 have h1 : (BitVec.ofInt 32 (x : Int)).toNat = x := by
  rw [BitVec.ofInt_natCast, BitVec.toNat_ofNat]; exact Nat.mod_eq_of_lt (by omega)
 have h2 : (BitVec.ofInt 32 (y : Int)).toNat = y := by
  rw [BitVec.ofInt_natCast, BitVec.toNat_ofNat]; exact Nat.mod_eq_of_lt (by omega)
 show IntKind.u32.wrap ((BitVec.ofInt 32 (x : Int) ^^^ BitVec.ofInt 32 (y : Int)).toNat : Int) = _
 rw [BitVec.toNat_xor, h1, h2, wrap_u32_mod]
 omega
theorem comI32 {x : Nat} (hx : x < 4294967296) : comI .u32 (x : Int) = ((Crc.ones ^^^ x : Nat) : Int) := xorI32 (x := 4294967295) (by omega) hx
theorem crc_lt (l : Bytes) : Crc.of l < 4294967296 := Crc.of_lt l
abbrev TH16 : Nat := 160
noncomputable def halfV : List AV := Crc.halves.map fun (m : Nat) => .int .u32 (m : Int)
theorem halfV_get {j : Nat} (hj : j < 16) : halfV[j]? = some (.int .u32 ((Crc.shN 4 j : Nat) : Int)) := by
 unfold halfV
 rw [List.getElem?_map, Crc.halves_get j hj]
 rfl
theorem bitsOf_take {s : Bytes} {k : Nat} (h : k < s.length) (x0 : Nat) : Crc.stps (Crc.bitsOf (s.take (k + 1))) x0 = Crc.shN 4 (Crc.shN 4 (Crc.stps (Crc.bitsOf (s.take k)) x0 ^^^ s[k].toNat)) := by
 rw [List.take_succ_eq_append_getElem h, Crc.bitsOf_append, Crc.stps_append, show Crc.bitsOf [s[k]] = Crc.bits8 s[k].toNat by simp [Crc.bitsOf], Crc.stps_byte _ _ s[k].toNat_lt]
theorem nibI {Y : Nat} (hY : Y < 4294967296) : xorI .u32 ((Y / 16 : Nat) : Int) ((Crc.shN 4 (Y % 16) : Nat) : Int) = ((Crc.shN 4 Y : Nat) : Int) := by
 have h := xorI32 (x := Y / 16) (y := Crc.shN 4 (Y % 16)) (by omega) (Crc.shN_lt (show Crc.U32 (Y % 16) by unfold Crc.U32; omega))
 rw [← Crc.nib] at h
 exact h
section
variable {n d : Nat} {h H : AHeap} {s : Bytes} {Q : ARes → AHeap → Prop} {x0 : Nat}
theorem more_loop (hx0 : x0 < 4294967296) (hs : s.length < 1000000000) (kr : RowH H h.next TH16 halfV) {k13 : Int → AHeap → R} (hk : Wp (k13 ((Crc.stps (Crc.bitsOf s) x0 : Nat) : Int) H) Q) :
  ∀ (r i fu X : Nat), r + i = s.length → r < fu → X = Crc.stps (Crc.bitsOf (s.take i)) x0 → Wp (sum_More_L0 s h k13 fu (X : Int) (i : Int) H) Q
 | _, _, 0, _, _, hf, _ => by omega
 | 0, i, fu + 1, X, hi, _, hX => by
  have ll := lenS_nat s
  rw [sum_More_L0_s]
  unfold sum_More_L0b
  refine Wp.lett (Wp.iff (by rw [decide_eq_false_iff_not]; omega) ?_)
  rw [List.take_of_length_le (by omega)] at hX
  rw [hX]
  exact hk
 | r + 1, i, fu + 1, X, hi, hf, hX => by
  have ll := lenS_nat s
  have hil : i < s.length := by omega
  have hXl : X < 4294967296 := by
   rw [hX]
   exact Crc.stps_lt hx0 (Crc.bitsOf_lt _)
  have hb := s[i].toNat_lt
  have l1 : X ^^^ s[i].toNat < 4294967296 := Nat.xor_lt_two_pow (n := 32) hXl (by omega)
  have l2 : Crc.shN 4 (X ^^^ s[i].toNat) < 4294967296 := Crc.shN_lt l1
  have e1 : ∀ Y : Nat, shrI .u32 (Y : Int) 4 = some ((Y / 16 : Nat) : Int) := fun Y => by
   have : shrI .u32 (Y : Int) 4 = some ((Y : Int).fdiv 16) := rfl
   rw [this, Int.fdiv_eq_ediv_of_nonneg _ (by omega)]
   rfl
  have e2 : ∀ Y : Nat, remI .u32 (Y : Int) 16 = some ((Y % 16 : Nat) : Int) := fun Y => rfl
  have e3 : ∀ j : Nat, j < 16 → idxA 16 1 (newP h) (j : Int) = some (.ptr h.next j) := fun j hj => by
   have : idxA 16 1 (newP h) (j : Int) = (match Nat.blt j 16 with | true => some (AV.ptr h.next (0 + j * 1)) | false => none) := rfl
   rw [this, show Nat.blt j 16 = true by simpa using hj, Nat.zero_add, Nat.mul_one]
  rw [sum_More_L0_s]
  unfold sum_More_L0b
  refine Wp.lett (Wp.ift (by rw [decide_eq_true_eq]; omega) (Wp.obind (idxS_nat hil) (Wp.lettu32 (by omega) (by omega) (Wp.lett ?_))))
  rw [xorI32 hXl (by omega)]
  refine Wp.obind (e1 _) (Wp.obind (e2 _) (Wp.obind (e3 _ (Nat.mod_lt _ (by decide))) (Wp.obind (RowH.cell' kr (halfV_get (Nat.mod_lt _ (by decide)))) (Wp.obind (avInt_int _ _) (Wp.lett ?_)))))
  rw [nibI l1]
  refine Wp.obind (e1 _) (Wp.obind (e2 _) (Wp.obind (e3 _ (Nat.mod_lt _ (by decide))) (Wp.obind (RowH.cell' kr (halfV_get (Nat.mod_lt _ (by decide)))) (Wp.obind (avInt_int _ _) (Wp.lett ?_)))))
  rw [nibI l2]
  refine Wp.lettw (by omega) (by omega) ?_
  rw [show (i : Int) + 1 = ((i + 1 : Nat) : Int) by omega]
  exact more_loop hx0 hs kr hk r (i + 1) fu _ (by omega) (by omega) (by rw [bitsOf_take hil, hX])
theorem more_w {a : Nat} (ha : a < 4294967296) (hs : s.length < 1000000000) (hn : s.length < n) : world n (d + 1) 87 [.int .u32 (a : Int), strA s] h = some (.ret (.int .u32 ((Crc.more a s : Nat) : Int)), h) := by
 apply Wp.eq
 rw [w_sum_More]
 refine Wp.gc ?_
 unfold sum_More
 refine Wp.obind (a := halfV) (by kernel_rfl) (Wp.mnew (Mem.nil [] h) fun h2 M2 => ?_)
 rw [newP_eq]
 refine Wp.sa0 M2 (by kernel_rfl) rfl (by kernel_rfl) fun h3 M3 => Wp.lett (Wp.lettG fun k13 e13 => ?_)
 have ho : Crc.ones ^^^ a < 4294967296 := Crc.xor_lt Crc.ones_lt ha
 rw [comI32 ha]
 refine more_loop ho hs M3.at0.1 ?_ s.length 0 n _ (Nat.add_zero _) hn rfl
 rw [e13]
 dsimp only
 rw [comI32 (Crc.stps_lt ho (Crc.bitsOf_lt _))]
 exact Wp.lett (Wp.ret ⟨M3.tch.above, rfl, rfl, rfl⟩)
theorem sum_w (hs : s.length < 1000000000) (hn : s.length < n) : world n (d + 2) 84 [strA s] h = some (.ret (.int .u32 ((Crc.of s : Nat) : Int)), h) := by
 apply Wp.eq
 rw [w_sum_Of]
 refine Wp.gc' ?_
 unfold sum_Of
 exact Wp.callN (more_w (n := n) (d := d) (a := 0) (by omega) hs hn) (Wp.obind (avInt_int _ _) (Wp.ret ⟨⟨rfl, rfl⟩, fun _ => ⟨rfl, rfl⟩⟩))
end
theorem numB_val : ∀ (w v : Nat), v < 256 ^ w → valB (numB w v) = v
 | 0, v, h => by
  have : v = 0 := by simpa using h
  subst this
  rfl
 | w + 1, v, h => by
  have ih := numB_val w (v / 256) (by rw [Nat.pow_succ] at h; omega)
  unfold numB
  unfold valB at ih ⊢
  rw [valF_append, ih]
  show v / 256 * 256 + (UInt8.ofNat (v % 256)).toNat = v
  have := byte_of v
  omega
theorem numB_of : ∀ (w : Nat) (l : Bytes), l.length = w → numB w (valB l) = l
 | 0, l, h => by rw [List.length_eq_zero_iff.1 h]; rfl
 | w + 1, l, h => by
  have hne : l ≠ [] := fun e => by subst e; cases h
  obtain ⟨k, b, rfl⟩ : ∃ k b, l = k ++ [b] := ⟨l.dropLast, l.getLast hne, (List.dropLast_concat_getLast hne).symm⟩
  rw [List.length_append, List.length_singleton] at h
  have ih := numB_of w k (by omega)
  have hv : valB (k ++ [b]) = valB k * 256 + b.toNat := by
   unfold valB
   rw [valF_append]
   rfl
  have hb := b.toNat_lt
  unfold numB
  rw [hv, show (valB k * 256 + b.toNat) / 256 = valB k by omega, ih, show (valB k * 256 + b.toNat) % 256 = b.toNat by omega, UInt8.ofNat_toNat]
theorem numB_iff {w v : Nat} {l : Bytes} (hv : v < 256 ^ w) (hl : l.length = w) : numB w v = l ↔ valB l = v := by
 constructor
 ·intro e
  rw [← e]
  exact numB_val w v hv
 ·intro e
  rw [← e]
  exact numB_of w l hl
def wholeB (u : Bytes) : Bool := valB (u.drop (u.length - 4)) == Crc.of (u.take (u.length - 4))
def frameB (p : Bytes) : Bytes := numB 4 p.length ++ numB 4 (Crc.of (numB 4 p.length)) ++ (p ++ numB 4 (Crc.of p))
def takeR (s : Bytes) : Bytes × Nat × Int :=
 if s.length < 8 then ([], 0, 30) else if 4096 < valB (s.take 4) ∨ wholeB (s.take 8) = false then ([], 0, 7)
 else if s.length < valB (s.take 4) + 12 then ([], 0, 30) else if wholeB ((s.drop 8).take (valB (s.take 4) + 4)) = false then ([], 0, 7)
 else ((s.drop 8).take (valB (s.take 4)), valB (s.take 4) + 12, 0)
theorem frameB_length (p : Bytes) : (frameB p).length = p.length + 12 := by
 unfold frameB
 rw [List.length_append, List.length_append, List.length_append, numB_length, numB_length, numB_length]
 omega
theorem takeR_ok {s : Bytes} (h : (takeR s).2.2 = 0) : 8 ≤ s.length ∧ valB (s.take 4) ≤ 4096 ∧ wholeB (s.take 8) = true ∧ valB (s.take 4) + 12 ≤ s.length ∧ wholeB ((s.drop 8).take (valB (s.take 4) + 4)) = true ∧ takeR s = ((s.drop 8).take (valB (s.take 4)), valB (s.take 4) + 12, 0) := by
 unfold takeR at h ⊢
 by_cases h1 : s.length < 8
 ·rw [if_pos h1] at h
  cases h
 rw [if_neg h1] at h ⊢
 by_cases h2 : 4096 < valB (s.take 4) ∨ wholeB (s.take 8) = false
 ·rw [if_pos h2] at h
  cases h
 rw [if_neg h2] at h ⊢
 by_cases h3 : s.length < valB (s.take 4) + 12
 ·rw [if_pos h3] at h
  cases h
 rw [if_neg h3] at h ⊢
 by_cases h4 : wholeB ((s.drop 8).take (valB (s.take 4) + 4)) = false
 ·rw [if_pos h4] at h
  cases h
 rw [if_neg h4]
 have h5 : wholeB (s.take 8) ≠ false := fun e => h2 (.inr e)
 have h6 : ¬ 4096 < valB (s.take 4) := fun e => h2 (.inl e)
 exact ⟨by omega, by omega, by simpa using h5, by omega, by simpa using h4, rfl⟩
theorem takeR_len {s : Bytes} (h : (takeR s).2.2 = 0) : (takeR s).2.1 ≤ s.length ∧ 12 ≤ (takeR s).2.1 ∧ (takeR s).1.length + 12 = (takeR s).2.1 ∧ (takeR s).1.length ≤ 4096 := by
 obtain ⟨h1, h2, _, h4, _, e⟩ := takeR_ok h
 rw [e]
 refine ⟨h4, by show 12 ≤ valB (s.take 4) + 12; omega, ?_, ?_⟩
 ·show ((s.drop 8).take (valB (s.take 4))).length + 12 = valB (s.take 4) + 12
  rw [List.length_take, List.length_drop]
  omega
 ·show ((s.drop 8).take (valB (s.take 4))).length ≤ _
  rw [List.length_take]
  omega
def scanF : Nat → Bytes → List Bytes × Nat
 | 0, _ => ([], 0)
 | f + 1, s => if (takeR s).2.2 = 0 then ((takeR s).1 :: (scanF f (s.drop (takeR s).2.1)).1, (takeR s).2.1 + (scanF f (s.drop (takeR s).2.1)).2) else ([], 0)
def scanR (s : Bytes) : List Bytes × Nat := scanF (s.length + 1) s
theorem scanF_any : ∀ (f g : Nat) (s : Bytes), s.length < f → s.length < g → scanF f s = scanF g s
 | 0, _, _, h, _ => by omega
 | _, 0, _, _, h => by omega
 | f + 1, g + 1, s, hf, hg => by
  unfold scanF
  split
  ·rename_i h
   have hl := takeR_len h
   rw [scanF_any f g (s.drop (takeR s).2.1) (by rw [List.length_drop]; omega) (by rw [List.length_drop]; omega)]
  ·rfl
theorem scanR_bad {s : Bytes} (h : (takeR s).2.2 ≠ 0) : scanR s = ([], 0) := by
 unfold scanR scanF
 rw [if_neg h]
theorem scanR_ok {s : Bytes} (h : (takeR s).2.2 = 0) : scanR s = ((takeR s).1 :: (scanR (s.drop (takeR s).2.1)).1, (takeR s).2.1 + (scanR (s.drop (takeR s).2.1)).2) := by
 have hl := takeR_len h
 unfold scanR
 rw [scanF, if_pos h, scanF_any s.length ((s.drop (takeR s).2.1).length + 1) (s.drop (takeR s).2.1) (by rw [List.length_drop]; omega) (by omega)]
theorem scanR_at : ∀ (k : Nat) (s : Bytes), s.length ≤ k → (scanR s).2 ≤ s.length ∧ (scanR s).1.length * 12 ≤ s.length
 | k, s, hk => by
  by_cases h : (takeR s).2.2 = 0
  ·have hl := takeR_len h
   match k, hk with
   | 0, hk => omega
   | k + 1, hk =>
    have ih := scanR_at k (s.drop (takeR s).2.1) (by rw [List.length_drop]; omega)
    rw [List.length_drop] at ih
    rw [scanR_ok h]
    constructor
    ·show (takeR s).2.1 + _ ≤ _
     omega
    ·rw [List.length_cons]
     omega
  ·rw [scanR_bad h]
   exact ⟨Nat.zero_le _, by simp⟩
theorem wholeB_iff {u : Bytes} (hu : 4 ≤ u.length) : wholeB u = true ↔ numB 4 (Crc.of (u.take (u.length - 4))) = u.drop (u.length - 4) := by
 unfold wholeB
 rw [beq_iff_eq, numB_iff (by exact crc_lt _) (by rw [List.length_drop]; omega)]
theorem take_frame {s : Bytes} (h : (takeR s).2.2 = 0) : s.take (takeR s).2.1 = frameB (takeR s).1 := by
 obtain ⟨h1, h2, h3, h4, h5, e⟩ := takeR_ok h
 rw [e]
 show s.take (valB (s.take 4) + 12) = frameB ((s.drop 8).take (valB (s.take 4)))
 have hl4 : (s.take 4).length = 4 := by rw [List.length_take]; omega
 have hl8 : (s.take 8).length = 8 := by rw [List.length_take]; omega
 have hpl : ((s.drop 8).take (valB (s.take 4))).length = valB (s.take 4) := by rw [List.length_take, List.length_drop]; omega
 have hql : ((s.drop 8).take (valB (s.take 4) + 4)).length = valB (s.take 4) + 4 := by rw [List.length_take, List.length_drop]; omega
 have w1 := (wholeB_iff (by omega)).1 h3
 have w2 := (wholeB_iff (by omega)).1 h5
 rw [hl8, List.take_take] at w1
 rw [hql, List.take_take, Nat.add_sub_cancel, Nat.min_eq_left (Nat.le_add_right _ _)] at w2
 have e4 : numB 4 (valB (s.take 4)) = s.take 4 := numB_of 4 _ hl4
 unfold frameB
 rw [hpl, e4, w2]
 have w1 : numB 4 (Crc.of (s.take 4)) = (s.take 8).drop 4 := w1
 rw [w1]
 have a1 : s.take 4 ++ (s.take 8).drop 4 = s.take 8 := by
  have := List.take_append_drop 4 (s.take 8)
  rw [List.take_take] at this
  exact this
 have a2 : (s.drop 8).take (valB (s.take 4)) ++ ((s.drop 8).take (valB (s.take 4) + 4)).drop (valB (s.take 4)) = (s.drop 8).take (valB (s.take 4) + 4) := by
  have := List.take_append_drop (valB (s.take 4)) ((s.drop 8).take (valB (s.take 4) + 4))
  rw [List.take_take, Nat.min_eq_left (Nat.le_add_right _ _)] at this
  exact this
 rw [a1, a2, show valB (s.take 4) + 12 = 8 + (valB (s.take 4) + 4) by omega, List.take_add]
theorem frame_take {p rest : Bytes} (hp : p.length ≤ 4096) : takeR (frameB p ++ rest) = (p, p.length + 12, 0) := by
 have hl := frameB_length p
 have l4 : (numB 4 p.length).length = 4 := numB_length _ _
 have c4 : ∀ x : Bytes, (numB 4 (Crc.of x)).length = 4 := fun x => numB_length _ _
 have t4 : (frameB p ++ rest).take 4 = numB 4 p.length := by
  unfold frameB
  rw [List.append_assoc, List.append_assoc, List.take_append_of_le_length (by omega), List.take_of_length_le (by omega)]
 have t8 : (frameB p ++ rest).take 8 = numB 4 p.length ++ numB 4 (Crc.of (numB 4 p.length)) := by
  unfold frameB
  rw [List.append_assoc, List.take_left' (by rw [List.length_append, l4, c4])]
 have d8 : (frameB p ++ rest).drop 8 = p ++ numB 4 (Crc.of p) ++ rest := by
  unfold frameB
  rw [List.append_assoc, List.drop_left' (by rw [List.length_append, l4, c4])]
 have hv : valB ((frameB p ++ rest).take 4) = p.length := by
  rw [t4]
  exact numB_val 4 _ (by have : 256 ^ 4 = 4294967296 := rfl; omega)
 have w1 : wholeB ((frameB p ++ rest).take 8) = true := by
  rw [t8, wholeB_iff (by rw [List.length_append, l4, c4]; omega), List.length_append, l4, c4]
  rw [List.take_left' l4, List.drop_left' l4]
 have w2 : wholeB (((frameB p ++ rest).drop 8).take (p.length + 4)) = true := by
  rw [d8, List.take_left' (by rw [List.length_append, c4]), wholeB_iff (by rw [List.length_append, c4]; omega), List.length_append, c4, Nat.add_sub_cancel]
  rw [List.take_left' rfl, List.drop_left' rfl]
 unfold takeR
 rw [hv, w1, w2, if_neg (by rw [List.length_append]; omega), if_neg (by simp; omega), if_neg (by rw [List.length_append]; omega), if_neg (by decide), d8, List.append_assoc, List.take_left' rfl]
section
variable {n d : Nat} {h : AHeap} {s p : Bytes} {Q : ARes → AHeap → Prop}
theorem new_r (s : Bytes) (h : AHeap) : ∃ h', world n (d + 1) 70 [strA s] h = some (.ret (.ptr h.next 0), h') ∧ PR h' h.next s ⟨0, 0, 0⟩ ∧ h.next < h'.next ∧ Tch [] h h' := by
 suffices hK : Wp (world n (d + 1) 70 [strA s] h) fun r h' => r = .ret (.ptr h.next 0) ∧ PR h' h.next s ⟨0, 0, 0⟩ ∧ h.next < h'.next ∧ Tch [] h h' by
  obtain ⟨_, h', e, rfl, k⟩ := hK
  exact ⟨h', e, k⟩
 rw [w_wire_New]
 refine Wp.gcn ?_
 unfold wire_New
 exact Wp.mbox (Mem.nil [] h) rfl fun h2 M2 => Wp.ret ⟨Bool.eq_false_iff.2 (fun e => by have := Nat.le_of_ble_eq_true (show Nat.ble (h.next + 1) h.next = true from e); omega), rfl, M2.at0.1, M2.at0.2.1, M2.tch⟩
theorem fwhole_w (hu : 4 ≤ s.length) (hs : s.length < 1000000000) (hn : s.length < n) (hn8 : 8 < n) : world n (d + 4) 80 [strA s] h = some (.ret (.bool (wholeB s)), h) := by
 have ll := lenS_nat s
 have s1 : sliceS s (lenS s - 4) (lenS s) = some (s.drop (s.length - 4)) := by
  rw [sliceS_int (by omega) (by omega) (by omega), List.take_of_length_le (by rw [List.length_drop]; omega)]
  congr 2
  omega
 have s2 : sliceS s 0 (lenS s - 4) = some (s.take (s.length - 4)) := by
  rw [sliceS_int (by omega) (by omega) (by omega)]
  show some ((s.drop 0).take _) = _
  rw [List.drop_zero]
  congr 2
  omega
 have hl4 : (s.drop (s.length - 4)).length = 4 := by rw [List.length_drop]; omega
 obtain ⟨h1, e1, k1, l1, t1⟩ := new_r (n := n) (d := d + 2) (s.drop (s.length - 4)) h
 obtain ⟨h2, e2, k2, t2⟩ := u32_r (n := n) (d := d) k1 (Nat.zero_le _) (by omega) hn8
 have ev : (rNum (s.drop (s.length - 4)) 4 ⟨0, 0, 0⟩).1 = valB (s.drop (s.length - 4)) := by
  unfold rNum
  rw [if_neg (by simp), if_neg (by show ¬ _ < 0 + 4; omega)]
  show valB (((s.drop (s.length - 4)).drop 0).take 4) = _
  rw [List.drop_zero, List.take_of_length_le (by omega)]
 rw [ev] at e2
 apply Wp.eq
 rw [w_frame_whole]
 refine Wp.gc ?_
 unfold frame_whole
 refine Wp.lettw (by omega) (by omega) (Wp.obind s1 (Wp.obind s2 (Wp.callN e1 (Wp.callN e2 (Wp.obind (avInt_int _ _) (Wp.callN (sum_w (n := n) (d := d + 1) (by rw [List.length_take]; omega) (by rw [List.length_take]; omega)) (Wp.obind (avInt_int _ _) (Wp.lett ?_))))))))
 refine Wp.ret ⟨(t1.trans' t2 fun b hb => .inr (by rw [List.mem_singleton.1 hb]; exact Nat.le_refl _)).above, rfl, ?_, rfl⟩
 unfold wholeB
 by_cases hc : valB (s.drop (s.length - 4)) = Crc.of (s.take (s.length - 4))
 ·rw [beq_t (by omega), beq_iff_eq.2 hc]
 ·rw [beq_f (by omega), beq_eq_false_iff_ne.2 hc]
theorem summed_w (hs : s.length < 1000000) (hn : s.length < n) (hn8 : 8 < n) (hx : memB 5 h.ex = false) : world n (d + 3) 74 [strA s] h = some (.ret (strA (s ++ numB 4 (Crc.of s))), h) := by
 apply Wp.eq
 rw [w_frame_summed]
 refine Wp.gc' ?_
 unfold frame_summed
 have hc := crc_lt s
 exact Wp.callN (sum_w (n := n) (d := d) (by omega) hn) (Wp.obind (avInt_int _ _) (Wp.callN (u32_w (n := n) (d := d) hn8 hc hx) (Wp.obind (avStr_str _) (Wp.obind (addS_val (by rw [numB_length]; omega)) (Wp.ret ⟨⟨rfl, rfl⟩, fun _ => ⟨rfl, rfl⟩⟩)))))
theorem put_w (hn : 4096 < n) (hx : memB 5 h.ex = false) : world n (d + 4) 57 [strA p] h = some (.ret (if 4096 < p.length then .tup [strA [], .int .i64 3] else .tup [strA (frameB p), .int .i64 0]), h) := by
 have ll := lenS_nat p
 apply Wp.eq
 rw [w_frame_Put]
 refine Wp.gc' ?_
 unfold frame_Put
 by_cases hp : 4096 < p.length
 ·rw [if_pos hp]
  exact Wp.lett (Wp.ift (by rw [decide_eq_true_eq]; omega) (Wp.ret ⟨⟨rfl, rfl⟩, fun _ => ⟨rfl, rfl⟩⟩))
 ·rw [if_neg hp]
  have n4 : (numB 4 p.length).length = 4 := numB_length _ _
  refine Wp.lett (Wp.iff (by rw [decide_eq_false_iff_not]; omega) (Wp.lettu32 (by omega) (by omega) ?_))
  rw [ll]
  refine Wp.callN (u32_w (n := n) (d := d + 1) (by omega) (by omega) hx) (Wp.obind (avStr_str _) (Wp.callN (summed_w (n := n) (d := d) (by omega) (by omega) (by omega) hx) (Wp.obind (avStr_str _) (Wp.callN (summed_w (n := n) (d := d) (by omega) (by omega) (by omega) hx) (Wp.obind (avStr_str _) (Wp.obind (addS_val ?_) (Wp.ret ⟨⟨rfl, rfl⟩, fun _ => ⟨rfl, rfl⟩⟩)))))))
  rw [List.length_append, List.length_append, numB_length, numB_length, numB_length]
  omega
theorem take_w (hs : s.length < 1000000000) (hn : 5000 < n) : world n (d + 5) 69 [strA s] h = some (.ret (.tup [strA (takeR s).1, .int .i64 ((takeR s).2.1 : Int), .int .i64 (takeR s).2.2]), h) := by
 have ll := lenS_nat s
 obtain ⟨h1, e1, k1, l1, t1⟩ := new_r (n := n) (d := d + 3) s h
 obtain ⟨h2, e2, k2, t2⟩ := u32_r (n := n) (d := d + 1) k1 (Nat.zero_le _) (by omega) (by omega)
 have T : Tch [] h h2 := t1.trans' t2 fun b hb => .inr (by rw [List.mem_singleton.1 hb]; exact Nat.le_refl _)
 have tA := T.above
 apply Wp.eq
 rw [w_frame_Take]
 refine Wp.gc ?_
 unfold frame_Take takeR
 by_cases h8 : s.length < 8
 ·rw [if_pos h8]
  exact Wp.lett (Wp.ift (by rw [decide_eq_true_eq]; omega) (Wp.ret ⟨(Tch.refl [] h).above, rfl, rfl, rfl⟩))
 rw [if_neg h8]
 have ev : (rNum s 4 ⟨0, 0, 0⟩).1 = valB (s.take 4) := by
  unfold rNum
  rw [if_neg (by simp), if_neg (by show ¬ _ < 0 + 4; omega)]
  rfl
 have hv : valB (s.take 4) < 4294967296 := by
  have := valB_lt (s.take 4)
  rw [List.length_take, Nat.min_eq_left (by omega)] at this
  exact this
 rw [ev] at e2
 generalize hV : valB (s.take 4) = V at *
 refine Wp.lett (Wp.iff (by rw [decide_eq_false_iff_not]; omega) (Wp.callN e1 (Wp.callN e2 (Wp.obind (avInt_int _ _) (Wp.lett (Wp.lettG fun j20 e20 => ?_))))))
 have bad : (4096 < V ∨ wholeB (s.take 8) = false) → Wp (j20 true h2) fun r h' => Above h h' ∧ r.val.scal = true ∧ r = ARes.ret (AV.tup [strA (if 4096 < V ∨ wholeB (s.take 8) = false then ([], 0, 7) else if s.length < V + 12 then ([], 0, 30) else if wholeB ((s.drop 8).take (V + 4)) = false then ([], 0, 7) else ((s.drop 8).take V, V + 12, 0) : Bytes × Nat × Int).1, .int .i64 ((if 4096 < V ∨ wholeB (s.take 8) = false then ([], 0, 7) else if s.length < V + 12 then ([], 0, 30) else if wholeB ((s.drop 8).take (V + 4)) = false then ([], 0, 7) else ((s.drop 8).take V, V + 12, 0) : Bytes × Nat × Int).2.1 : Int), .int .i64 (if 4096 < V ∨ wholeB (s.take 8) = false then ([], 0, 7) else if s.length < V + 12 then ([], 0, 30) else if wholeB ((s.drop 8).take (V + 4)) = false then ([], 0, 7) else ((s.drop 8).take V, V + 12, 0) : Bytes × Nat × Int).2.2]) ∧ h = h := fun hc => by
  rw [if_pos hc, e20]
  exact Wp.ift rfl (Wp.ret ⟨tA, rfl, rfl, rfl⟩)
 by_cases h4 : 4096 < V
 ·exact Wp.ift (by rw [decide_eq_true_eq]; omega) (bad (.inl h4))
 have s8 : sliceS s 0 8 = some (s.take 8) := by
  rw [sliceS_int (by omega) (by omega) (by omega)]
  rfl
 refine Wp.iff (by rw [decide_eq_false_iff_not]; omega) (Wp.obind s8 (Wp.callN (fwhole_w (n := n) (d := d) (by rw [List.length_take]; omega) (by rw [List.length_take]; omega) (by rw [List.length_take]; omega) (by omega)) (Wp.obind (avBool_bool _) (Wp.lett ?_))))
 cases hw : wholeB (s.take 8) with
 | false =>
  rw [hw] at bad
  exact bad (.inr rfl)
 | true =>
  rw [if_neg (by simp; omega), e20]
  refine Wp.iff rfl (Wp.lettw (by omega) (by omega) (Wp.lettw (by omega) (by omega) (Wp.lettw (by omega) (by omega) (Wp.lett ?_))))
  by_cases h12 : s.length < V + 12
  ·rw [if_pos h12]
   exact Wp.ift (by rw [decide_eq_true_eq]; omega) (Wp.ret ⟨tA, rfl, rfl, rfl⟩)
  rw [if_neg h12]
  have sA : sliceS s 8 (8 + (V : Int) + 4) = some ((s.drop 8).take (V + 4)) := by
   rw [sliceS_int (by omega) (by omega) (by omega), show (8 + (V : Int) + 4).toNat - (8 : Int).toNat = V + 4 by omega]
   rfl
  have sB : sliceS s 8 (8 + (V : Int) + 4 - 4) = some ((s.drop 8).take V) := by
   rw [sliceS_int (by omega) (by omega) (by omega), show (8 + (V : Int) + 4 - 4).toNat - (8 : Int).toNat = V by omega]
   rfl
  have hql : ((s.drop 8).take (V + 4)).length = V + 4 := by rw [List.length_take, List.length_drop]; omega
  refine Wp.iff (by rw [decide_eq_false_iff_not]; omega) (Wp.obind sA (Wp.callN (fwhole_w (n := n) (d := d) (by omega) (by omega) (by omega) (by omega)) (Wp.obind (avBool_bool _) (Wp.lett ?_))))
  cases hw2 : wholeB ((s.drop 8).take (V + 4)) with
  | false =>
   rw [if_pos rfl]
   exact Wp.ift rfl (Wp.ret ⟨tA, rfl, rfl, rfl⟩)
  | true =>
   rw [if_neg (by decide)]
   refine Wp.iff rfl (Wp.lettw (by omega) (by omega) (Wp.obind sB (Wp.ret ⟨tA, rfl, ?_, rfl⟩)))
   rw [show 8 + (V : Int) + 4 = ((V + 12 : Nat) : Int) by omega]
end
abbrev TStr : Nat := 9
section
variable {n d D bx y : Nat} {h H : AHeap} {s p : Bytes} {Q : ARes → AHeap → Prop} {v v1 : AV}
theorem fall_loop {both : BothF} {yb : AV} {Inv Fin : Nat → AHeap → Prop} (hs : s.length < 1000000000)
  (htk : ∀ (u : Bytes) (h : AHeap), u.length < 1000000000 → both false 69 [strA u] h = some (.ret (.tup [strA (takeR u).1, .int .i64 ((takeR u).2.1 : Int), .int .i64 (takeR u).2.2]), h))
  (hbx : ∀ i H, Inv i H → RowH H bx TStr [strA s])
  (step : ∀ i H, i ≤ s.length → (takeR (s.drop i)).2.2 = 0 → Inv i H → ∃ g H', dynB Try.prog both yb [.int .i64 (i : Int), strA (takeR (s.drop i)).1] H = some (.ret (.bool g), H') ∧ (g = true → Inv (i + (takeR (s.drop i)).2.1) H') ∧ (g = false → Fin i H'))
  (hk : ∀ i H, i ≤ s.length → (takeR (s.drop i)).2.2 ≠ 0 → Inv i H → Q (.ret (.tup [])) H) (hf : ∀ i H, i ≤ s.length → (takeR (s.drop i)).2.2 = 0 → Fin i H → Q (.ret (.tup [])) H) :
  ∀ (fu i : Nat) (H : AHeap), s.length - i < fu → i ≤ s.length → Inv i H → Wp (frame_All_1_L0 both yb (.ptr bx 0) fu (i : Int) H) Q
 | 0, _, _, hfu, _, _ => by omega
 | fu + 1, i, H, hfu, hi, I => by
  have ll := lenS_nat s
  have sA : sliceS s (i : Int) (lenS s) = some (s.drop i) := by
   rw [sliceS_int (by omega) (by omega) (by omega), List.take_of_length_le (by rw [List.length_drop]; omega)]
   rfl
  rw [frame_All_1_L0_s]
  unfold frame_All_1_L0b
  refine Wp.obind (RowH.cell' (hbx i H I) rfl) (Wp.obind (avStr_str _) (Wp.obind sA (Wp.callN (htk _ H (by rw [List.length_drop]; omega)) (Wp.obind (extT_0 _ _) (Wp.obind (avStr_str _) (Wp.obind (extT_1 _ _ _) (Wp.obind (avInt_int _ _) (Wp.obind (extT_2 _ _ _ _) (Wp.obind (avInt_int _ _) (Wp.lett (Wp.lettG fun j23 e23 => ?_)))))))))))
  by_cases he : (takeR (s.drop i)).2.2 = 0
  ·have hl := takeR_len he
   rw [List.length_drop] at hl
   obtain ⟨g, H', e, y1, y2⟩ := step i H hi he I
   refine Wp.iff (bne_f he) (Wp.callN e (Wp.obind (avBool_bool _) (Wp.lett ?_)))
   rw [e23]
   cases g with
   | false => exact Wp.ift rfl (Wp.marks0 (Wp.ret (hf i H' hi he (y2 rfl))))
   | true =>
    refine Wp.iff rfl (Wp.lettw (by omega) (by omega) ?_)
    rw [show (i : Int) + ((takeR (s.drop i)).2.1 : Int) = ((i + (takeR (s.drop i)).2.1 : Nat) : Int) by omega]
    exact fall_loop hs htk hbx step hk hf fu (i + (takeR (s.drop i)).2.1) H' (by omega) (by omega) (y1 rfl)
  ·refine Wp.ift (bne_t he) ?_
   rw [e23]
   exact Wp.ift rfl (Wp.marks0 (Wp.ret (hk i H hi he I)))
theorem fall_iter {Inv Fin : Nat → AHeap → Prop} (hs : s.length < 1000000000) (hn : 1000000000 < n) (hbx : ∀ i H, Inv i H → RowH H bx TStr [strA s])
  (step : ∀ i H, i ≤ s.length → (takeR (s.drop i)).2.2 = 0 → Inv i H → ∃ g H', dynB Try.prog (wL n (D + 5) (d + 1)) (.yld y) [.int .i64 (i : Int), strA (takeR (s.drop i)).1] H = some (.ret (.bool g), H') ∧ (g = true → Inv (i + (takeR (s.drop i)).2.1) H') ∧ (g = false → Fin i H'))
  (h0 : Inv 0 H) : ∃ H', wL n (D + 5) (d + 2) false 68 [.yld y, .ptr bx 0] H = some (.ret (.tup []), H') ∧ ((∃ i, i ≤ s.length ∧ (takeR (s.drop i)).2.2 ≠ 0 ∧ Inv i H') ∨ ∃ i, i ≤ s.length ∧ (takeR (s.drop i)).2.2 = 0 ∧ Fin i H') := by
 suffices hK : Wp (frame_All_1 (wL n (D + 5) (d + 1)) n (.yld y) (.ptr bx 0) H) fun r H' => r = .ret (.tup []) ∧ ((∃ i, i ≤ s.length ∧ (takeR (s.drop i)).2.2 ≠ 0 ∧ Inv i H') ∨ ∃ i, i ≤ s.length ∧ (takeR (s.drop i)).2.2 = 0 ∧ Fin i H') by
  obtain ⟨_, H', e, rfl, k⟩ := hK
  exact ⟨H', wL_frame_All_1 n (D + 5) (d + 1) _ _ e, k⟩
 unfold frame_All_1
 exact fall_loop (Inv := Inv) (Fin := Fin) hs (fun u h hu => (wL_b 69).trans (take_w (n := n) (d := D) hu (by omega))) hbx step (fun i H h1 h2 I => ⟨rfl, .inl ⟨i, h1, h2, I⟩⟩) (fun i H h1 h2 I => ⟨rfl, .inr ⟨i, h1, h2, I⟩⟩) n 0 H (by omega) (Nat.zero_le _) h0
theorem fall_w (s : Bytes) (H : AHeap) : ∃ H', world n (d + 1) 53 [strA s] H = some (.ret (.fn 68 [] [.ptr H.next 0]), H') ∧ RowH H' H.next TStr [strA s] ∧ H.next < H'.next ∧ Tch [] H H' := by
 suffices hA : Wp (world n (d + 1) 53 [strA s] H) fun r h' => r = .ret (.fn 68 [] [.ptr H.next 0]) ∧ RowH h' H.next TStr [strA s] ∧ H.next < h'.next ∧ Tch [] H h' by
  obtain ⟨_, h', e, rfl, t⟩ := hA
  exact ⟨h', e, t⟩
 rw [w_frame_All]
 unfold frame_All
 refine Wp.mnew (Mem.nil [] H) fun h2 M2 => Wp.ret ⟨rfl, M2.at0.1, M2.at0.2.1, M2.tch⟩
theorem recS_ne {e b c : Nat} {l : List AV} {o : AKeep} (k : RowH H c e l) (hb : H.get b = some (.obj o)) : c ≠ b := by
 intro e
 subst e
 obtain ⟨t, h1, _⟩ := k
 rw [h1] at hb
 cases hb
end
abbrev TBy : Nat := 74
abbrev TChg : Nat := 110
abbrev TChgs : Nat := 77
abbrev TDisk : Nat := 82
structure Cont where
 th : Bool
 u : Bytes
structure Chg where
 k : Nat
 s : Bytes
 n : Int
noncomputable def chgC (c : Chg) : List AV := [.int .i64 (c.k : Int), strA c.s, .int .i64 c.n]
def do1 (x : Cont) (c : Chg) : Cont := if c.k = 0 then ⟨true, x.u ++ c.s⟩ else if c.k = 1 then ⟨x.th, x.u.take c.n.toNat⟩ else ⟨false, []⟩
def doL (x : Cont) (l : List Chg) : Cont := l.foldl do1 x
def legal (x : Cont) (c : Chg) : Prop := c.k = 0 ∨ (c.k = 1 ∧ 0 ≤ c.n ∧ c.n ≤ (x.u.length : Int)) ∨ c.k = 2
def Legal : Cont → List Chg → Prop
 | _, [] => True
 | x, c :: l => legal x c ∧ Legal (do1 x c) l
def sumL : List Chg → Nat
 | [] => 0
 | c :: l => c.s.length + sumL l
theorem do1_len (x : Cont) (c : Chg) : (do1 x c).u.length ≤ x.u.length + c.s.length := by
 unfold do1
 split
 ·rw [List.length_append]
  exact Nat.le_refl _
 ·split
  ·rw [List.length_take]
   omega
  ·exact Nat.zero_le _
theorem doL_len : ∀ (l : List Chg) (x : Cont), (doL x l).u.length ≤ x.u.length + sumL l
 | [], _ => Nat.le_refl _
 | c :: l, x => by
  have h1 := do1_len x c
  have h2 := doL_len l (do1 x c)
  show (doL (do1 x c) l).u.length ≤ x.u.length + (c.s.length + sumL l)
  omega
theorem doL_snoc (x : Cont) (l : List Chg) (c : Chg) : doL x (l ++ [c]) = do1 (doL x l) c := by
 unfold doL
 rw [List.foldl_append]
 rfl
theorem Legal_snoc : ∀ (l : List Chg) (x : Cont) (c : Chg), Legal x l → legal (doL x l) c → Legal x (l ++ [c])
 | [], _, _, _, h => ⟨h, trivial⟩
 | a :: l, x, c, h1, h2 => ⟨h1.1, Legal_snoc l (do1 x a) c h1.2 h2⟩
theorem sumL_snoc : ∀ (l : List Chg) (c : Chg), sumL (l ++ [c]) = sumL l + c.s.length
 | [], c => by
  show c.s.length + 0 = 0 + c.s.length
  omega
 | a :: l, c => by
  have := sumL_snoc l c
  show a.s.length + sumL (l ++ [c]) = a.s.length + sumL l + c.s.length
  omega
theorem Wp.lettG {α : Type} {a : α} {K : α → R} {Q : ARes → AHeap → Prop} (hk : ∀ x, x = a → Wp (K x) Q) : Wp (Abs.lett a K) Q := hk a rfl
def blkV : AV → List Nat
 | .sl c _ _ _ => [c]
 | _ => []
theorem slice_to {P : Program} {h : AHeap} {t e : TypeId} {b m sz k : Nat} {k1 : IntKind} (he : Abs.elemOf P t = some e) (hi : (P.info? e).isSome = true) (hsz : P.cellsOf e = sz) (h1 : k ≤ m) :
  sliceA P h t (.sl b 0 m sz) none (some (.int k1 (k : Int))) = some (.val (.sl b 0 k sz), h) := by
 have b1 : boundA (some (AV.int k1 (k : Int))) m = some k := rfl
 have b2 : boundA none 0 = some 0 := rfl
 simp only [sliceA, sliceRow, b1, b2, he]
 rw [if_pos ⟨Nat.ble_eq_true_of_le (Nat.zero_le k), Nat.ble_eq_true_of_le h1, hsz.symm, hi⟩, if_neg (fun hc => by have := Nat.le_of_ble_eq_true hc.2; omega), Nat.zero_mul, Nat.add_zero, Nat.sub_zero]
theorem fitBy : fitB Try.prog 5 1 = true := by kernel_rfl
def BufAt (h : AHeap) (v : AV) (u : Bytes) : Prop := (v = .nsl ∧ u = []) ∨ ∃ c rest, v = .sl c 0 u.length 1 ∧ RowH h c 5 (bytesC u ++ rest) ∧ c < h.next
section
variable {h h' : AHeap} {v : AV} {u : Bytes}
theorem BufAt.tch {S : List Nat} (k : BufAt h v u) (t : Tch S h h') (hd : ∀ b ∈ blkV v, b ∉ S) : BufAt h' v u := by
 rcases k with k | ⟨c, rest, rfl, h2, h3⟩
 ·exact .inl k
 ·exact .inr ⟨c, rest, rfl, h2.tch t h3 (hd c (List.mem_singleton.2 rfl)), Nat.lt_of_lt_of_le h3 t.1⟩
theorem BufAt.lt (k : BufAt h v u) : ∀ b ∈ blkV v, b < h.next := by
 rcases k with ⟨rfl, _⟩ | ⟨c, rest, rfl, _, h3⟩
 ·exact fun b hb => nomatch hb
 ·intro b hb
  rw [List.mem_singleton.1 hb]
  exact h3
theorem BufAt.len (k : BufAt h v u) : lenL v = some (u.length : Int) := by
 rcases k with ⟨rfl, rfl⟩ | ⟨c, rest, rfl, _⟩ <;> rfl
theorem BufAt.one (k : BufAt h v u) : v.one = true ∧ AV.cells v = [v] := by
 rcases k with ⟨rfl, rfl⟩ | ⟨c, rest, rfl, _⟩ <;> exact ⟨rfl, rfl⟩
theorem BufAt.app (k : BufAt h v u) (s : Bytes) (hx : h.ex = []) (hm : u.length + s.length ≤ 1000000000) :
  ∃ v' h', opAppend Try.prog h TBy 9 v (strA s) = some (.val v', h') ∧ BufAt h' v' (u ++ s) ∧ Tch (blkV v) h h' ∧ ∀ b ∈ blkV v', b ∈ blkV v ∨ h.next ≤ b := by
 have he : Abs.elemOf Try.prog TBy = some 5 := by kernel_rfl
 have hu : notInt Try.prog 9 = true := by kernel_rfl
 have hsz : Try.prog.cellsOf 5 = 1 := by kernel_rfl
 have hex : memB 5 h.ex = false := by rw [hx]; rfl
 by_cases h0 : s = []
 ·subst h0
  have hfit2 := bytesFit_of (P := Try.prog) (e := 5) (B := 1) (k := u.length + 0) fitBy (by omega) (by omega)
  rw [List.append_nil]
  refine ⟨v, h, ?_, k, Tch.refl _ _, fun b hb => .inl hb⟩
  rcases k with ⟨rfl, rfl⟩ | ⟨c, rest, rfl, _⟩
  ·have hl : lenA .nsl = some 0 := rfl
   have hx0 : lenA (strA []) = some 0 := rfl
   have hf : firstA h 1 0 (strA []) = some [] := firstA_str []
   unfold notInt at hu
   unfold opAppend
   split at hu
   ·cases hu
   ·rename_i ud hni heq
    have hfit3 : bytesFit Try.prog 5 (0 + 0) = true := hfit2
    simp only [he, hl, hx0, heq, hsz, hf, hfit3, hex, List.all_nil, and_self, if_true]
    rfl
   ·cases hu
  ·exact append_zero he hu hsz rfl rfl (firstA_str []) hfit2 hex
 ·obtain ⟨m, hm2⟩ : ∃ m, s.length = m + 1 := by
   cases s with
   | nil => exact absurd rfl h0
   | cons a l => exact ⟨l.length, rfl⟩
  have hf : firstA h 1 (m + 1) (strA s) = some (bytesC s) := by
   rw [← hm2]
   exact firstA_str s
  have hl : lenA (strA s) = some (m + 1) := by
   rw [← hm2]
   rfl
  rcases k with ⟨rfl, rfl⟩ | ⟨c, rest, rfl, h2, h3⟩
  ·have a1 := append_new (P := Try.prog) (h := h) (t := TBy) (u := 9) he hu hsz hl hf (bytesFit_of fitBy (by omega) (by omega)) (bytesC_one s) hex
   refine ⟨_, _, a1, .inr ⟨h.next, [], by rw [List.nil_append, hm2], ?_, Nat.lt_succ_self _⟩, Tch.newH _ _ _ _, fun b hb => .inr (by rw [List.mem_singleton.1 hb]; exact Nat.le_refl _)⟩
   rw [List.nil_append, List.append_nil]
   exact RowH.new _ _ _
  ·have hcl := bytesC_length u
   have a1 := append_more (P := Try.prog) (h := h) (t := TBy) (u := 9) (b := c) (o := 0) (m := u.length) (cs := bytesC u) he hu hsz hl hf (bytesFit_of fitBy (by omega) (by omega)) (bytesC_one s) hex (by
    have := h2.part (o := 0) (n := (bytesC u).length) (by rw [List.length_append]; omega)
    rw [List.drop_zero, List.take_left' rfl] at this
    rw [Nat.mul_one, ← hcl]
    exact this) h2.type
   refine ⟨_, _, a1, .inr ⟨h.next, [], by rw [List.length_append, hm2], ?_, Nat.lt_succ_self _⟩, (Tch.put (S := [c]) (.inl (List.mem_singleton.2 rfl)) _).trans (Tch.newH _ _ _ _), fun b hb => .inr (by rw [List.mem_singleton.1 hb]; exact Nat.le_refl _)⟩
   rw [bytesC_append, List.append_nil]
   exact RowH.new (h.put c .dead) _ _
theorem BufAt.cut (k : BufAt h v u) {n : Int} (h0 : 0 ≤ n) (h1 : n ≤ (u.length : Int)) : ∃ v', sliceA Try.prog h TBy v none (some (.int .i64 n)) = some (.val v', h) ∧ BufAt h v' (u.take n.toNat) ∧ blkV v' = blkV v := by
 obtain ⟨j, rfl⟩ : ∃ j : Nat, n = (j : Int) := ⟨n.toNat, by omega⟩
 rw [Int.toNat_natCast]
 have hj : j ≤ u.length := by omega
 rcases k with ⟨rfl, rfl⟩ | ⟨c, rest, rfl, h2, h3⟩
 ·have hj0 : j = 0 := by
   rw [List.length_nil] at hj
   omega
  subst hj0
  exact ⟨.nsl, by kernel_rfl, .inl ⟨rfl, rfl⟩, rfl⟩
 ·have hl : (u.take j).length = j := by rw [List.length_take]; omega
  refine ⟨.sl c 0 j 1, slice_to (P := Try.prog) (e := 5) (k1 := .i64) (by kernel_rfl) (by kernel_rfl) (by kernel_rfl) hj, .inr ⟨c, bytesC (u.drop j) ++ rest, by rw [hl], ?_, h3⟩, rfl⟩
  rw [← List.append_assoc, ← bytesC_append, List.take_append_drop]
  exact h2
end
def RdL (h : AHeap) (S : List Nat) (lv : AV) (l : List Chg) : Prop := lenL lv = some (l.length : Int) ∧ ∀ H, Tch S h H → ∀ (i : Nat) (hi : i < l.length), ∃ p, idxP 3 lv (i : Int) = some p ∧ ldRow H 3 p = some (chgC l[i])
theorem dropC {α : Type} {l : List α} {i : Nat} {a : α} {r : List α} (h : l.drop i = a :: r) : ∃ hi : i < l.length, l[i] = a ∧ l.drop (i + 1) = r := by
 have hi : i < l.length := by
  apply Nat.lt_of_not_le
  intro hh
  rw [List.drop_of_length_le hh] at h
  cases h
 rw [List.drop_eq_getElem_cons hi] at h
 injection h with h1 h2
 exact ⟨hi, h1, h2⟩
theorem dropN {α : Type} {l : List α} {i : Nat} (h : l.drop i = []) : l.length ≤ i := by
 apply Nat.le_of_not_lt
 intro hh
 rw [List.drop_eq_getElem_cons hh] at h
 cases h
theorem set4 {D : List AV} {o : Nat} {a b c d : AV} : (((D.set o a).set (o + 1) b).set o c).set (o + 1) d = (D.set o c).set (o + 1) d := by
 rw [List.set_comm b c (show o + 1 ≠ o by omega), List.set_set, List.set_set]
theorem set3 {D : List AV} {o : Nat} {a b d : AV} : ((D.set o a).set (o + 1) b).set (o + 1) d = (D.set o a).set (o + 1) d := List.set_set ..
theorem laid2 {l : List AV} {o : Nat} {a b : AV} (h : o + 1 < l.length) : laid l o [a, b] = (l.set o a).set (o + 1) b := by
 refine List.ext_getElem? fun i => ?_
 rw [laid_get (by show o + 2 ≤ _; omega)]
 by_cases h1 : i = o
 ·subst h1
  rw [if_pos ⟨Nat.le_refl _, by show i < i + 2; omega⟩, Nat.sub_self, List.getElem?_set_ne (by omega), List.getElem?_set_self (by omega)]
  rfl
 ·by_cases h2 : i = o + 1
  ·subst h2
   rw [if_pos ⟨by omega, by show o + 1 < o + 2; omega⟩, show o + 1 - o = 1 by omega, List.getElem?_set_self (by rw [List.length_set]; omega)]
   rfl
  ·rw [if_neg (fun hh => by have : i < o + 2 := hh.2; omega), List.getElem?_set_ne (by omega), List.getElem?_set_ne (by omega)]
structure DoAt (h H : AHeap) (db T o : Nat) (D : List AV) (v v' : AV) (x : Cont) : Prop where
 row : RowH H db T ((D.set o (.bool x.th)).set (o + 1) v')
 buf : BufAt H v' x.u
 ndb : db ∉ blkV v'
 sub : ∀ b ∈ blkV v', b ∈ blkV v ∨ h.next ≤ b
 tch : Tch (db :: blkV v) h H
 ex : H.ex = []
section
variable {n d db T o : Nat} {h : AHeap} {D : List AV} {v lv : AV} {l : List Chg} {Q : ARes → AHeap → Prop} {k4 : AHeap → R}
theorem do_loop (hdb : db < h.next) (ho : o + 1 < D.length) (rd : RdL h (db :: blkV v) lv l) (hl : l.length < 1000000) :
  ∀ (todo : List Chg) (i fu : Nat) (x : Cont) (v' : AV) (H : AHeap), l.drop i = todo → todo.length < fu → DoAt h H db T o D v v' x → Legal x todo → x.u.length + sumL todo ≤ 100000000 →
   (∀ H' v'', DoAt h H' db T o D v v'' (doL x todo) → Wp (k4 H') Q) → Wp (disk_content_do_L0 (.ptr db o) lv (l.length : Int) k4 fu (i : Int) H) Q
 | _, _, 0, _, _, _, _, hf, _, _, _, _ => by omega
 | [], i, fu + 1, x, v', H, hd, hf, K, _, _, hk => by
  have := dropN hd
  rw [disk_content_do_L0_s]
  unfold disk_content_do_L0b
  (first | (with_reducible first | refine Wp.join0 (fun _ _ => ?_) | refine Wp.join1 (fun _ _ => ?_) | refine Wp.join2 (fun _ _ => ?_)) | ((with_reducible first | refine Wp.lettw ?_ ?_ ?_ | refine Wp.lettu64 ?_ ?_ ?_ | refine Wp.lettu8 ?_ ?_ ?_ | refine Wp.lettu32 ?_ ?_ ?_); omega; omega) | (with_reducible refine Wp.lett ?_) | ((with_reducible apply Wp.obind); first | (with_reducible first | exact avInt_int _ _ | exact avBool_bool _ | exact avStr_str _ | exact nilC_ptr _ _ | exact fldP_ptr _ _ _ | exact avAgg_agg _ | exact extT_0 _ _ | exact extT_1 _ _ _ | exact extT_2 _ _ _ _ | assumption) | ((with_reducible first | apply RowH.cell' | apply RowH.ldAll); (with_reducible assumption); rfl)) | ((with_reducible refine Wp.ift ?_ ?_); first | (with_reducible first | rfl | assumption | exact Bool.not_false) | ((with_reducible first | apply decide_eq_true | apply not_df | apply bne_t | apply beq_t); omega)) | ((with_reducible refine Wp.iff ?_ ?_); first | (with_reducible first | rfl | assumption | exact Bool.not_true) | ((with_reducible first | apply decide_eq_false | apply not_dt | apply bne_f | apply beq_f); omega)) | ((with_reducible first | apply Wp.callN | apply Wp.callK); (with_reducible assumption)) | ((with_reducible apply Wp.outK); (with_reducible assumption)) | (with_reducible first | refine Wp.go0 (by assumption) ?_ | refine Wp.go1 (by assumption) ?_ | refine Wp.go2 (by assumption) ?_) | rw [newP_eq])
  refine Wp.iff (by rw [decide_eq_false_iff_not]; omega) ?_
  exact hk H v' K
 | c :: todo, i, fu + 1, x, v', H, hd, hf, K, hL, hb, hk => by
  obtain ⟨hi, hci, hd2⟩ := dropC hd
  rw [List.length_cons] at hf
  obtain ⟨p, i1, r1⟩ := rd.2 H K.tch i hi
  rw [hci] at r1
  have el : (i : Int) + 1 = ((i + 1 : Nat) : Int) := by omega
  have hs : sumL (c :: todo) = c.s.length + sumL todo := rfl
  have hlen : o + 1 < ((D.set o (.bool x.th)).set (o + 1) v').length := by rw [List.length_set, List.length_set]; exact ho
  have hn0 := K.tch.1
  rw [disk_content_do_L0_s]
  unfold disk_content_do_L0b
  (first | (with_reducible first | refine Wp.join0 (fun _ _ => ?_) | refine Wp.join1 (fun _ _ => ?_) | refine Wp.join2 (fun _ _ => ?_)) | ((with_reducible first | refine Wp.lettw ?_ ?_ ?_ | refine Wp.lettu64 ?_ ?_ ?_ | refine Wp.lettu8 ?_ ?_ ?_ | refine Wp.lettu32 ?_ ?_ ?_); omega; omega) | (with_reducible refine Wp.lett ?_) | ((with_reducible apply Wp.obind); first | (with_reducible first | exact avInt_int _ _ | exact avBool_bool _ | exact avStr_str _ | exact nilC_ptr _ _ | exact fldP_ptr _ _ _ | exact avAgg_agg _ | exact extT_0 _ _ | exact extT_1 _ _ _ | exact extT_2 _ _ _ _ | assumption) | ((with_reducible first | apply RowH.cell' | apply RowH.ldAll); (with_reducible assumption); rfl)) | ((with_reducible refine Wp.ift ?_ ?_); first | (with_reducible first | rfl | assumption | exact Bool.not_false) | ((with_reducible first | apply decide_eq_true | apply not_df | apply bne_t | apply beq_t); omega)) | ((with_reducible refine Wp.iff ?_ ?_); first | (with_reducible first | rfl | assumption | exact Bool.not_true) | ((with_reducible first | apply decide_eq_false | apply not_dt | apply bne_f | apply beq_f); omega)) | ((with_reducible first | apply Wp.callN | apply Wp.callK); (with_reducible assumption)) | ((with_reducible apply Wp.outK); (with_reducible assumption)) | (with_reducible first | refine Wp.go0 (by assumption) ?_ | refine Wp.go1 (by assumption) ?_ | refine Wp.go2 (by assumption) ?_) | rw [newP_eq])
  refine Wp.ift (by rw [decide_eq_true_eq]; omega) ?_
  refine Wp.obind i1 (Wp.obind r1 ?_)
  refine Wp.mnew (Mem.nil [] H) fun h2 M2 => ?_
  rw [newP_eq]
  refine Wp.sa0 M2 rfl rfl rfl fun h3 M3 => ?_
  have t3 := M3.tch
  have hn3 := t3.1
  have hx3 : h3.ex = [] := by rw [M3.ex, K.ex]
  have kr := K.row.tch t3 (Nat.lt_of_lt_of_le hdb K.tch.1) (by simp)
  have kb := K.buf.tch t3 (fun _ _ => by simp)
  have hne : H.next ≠ db := by omega
  refine Wp.obind (RowH.cell' M3.at0.1 (show (chgC c)[0]? = some (.int .i64 (c.k : Int)) from rfl)) (Wp.obind (avInt_int _ _) ?_)
  refine Wp.lett ?_
  refine Wp.lettG fun k26 ek => ?_
  have next : ∀ (H' : AHeap) (v'' : AV), DoAt h H' db T o D v v'' (do1 x c) → Wp (k26 H') Q := by
   intro H' v'' K'
   rw [ek]
   (first | (with_reducible first | refine Wp.join0 (fun _ _ => ?_) | refine Wp.join1 (fun _ _ => ?_) | refine Wp.join2 (fun _ _ => ?_)) | ((with_reducible first | refine Wp.lettw ?_ ?_ ?_ | refine Wp.lettu64 ?_ ?_ ?_ | refine Wp.lettu8 ?_ ?_ ?_ | refine Wp.lettu32 ?_ ?_ ?_); omega; omega) | (with_reducible refine Wp.lett ?_) | ((with_reducible apply Wp.obind); first | (with_reducible first | exact avInt_int _ _ | exact avBool_bool _ | exact avStr_str _ | exact nilC_ptr _ _ | exact fldP_ptr _ _ _ | exact avAgg_agg _ | exact extT_0 _ _ | exact extT_1 _ _ _ | exact extT_2 _ _ _ _ | assumption) | ((with_reducible first | apply RowH.cell' | apply RowH.ldAll); (with_reducible assumption); rfl)) | ((with_reducible refine Wp.ift ?_ ?_); first | (with_reducible first | rfl | assumption | exact Bool.not_false) | ((with_reducible first | apply decide_eq_true | apply not_df | apply bne_t | apply beq_t); omega)) | ((with_reducible refine Wp.iff ?_ ?_); first | (with_reducible first | rfl | assumption | exact Bool.not_true) | ((with_reducible first | apply decide_eq_false | apply not_dt | apply bne_f | apply beq_f); omega)) | ((with_reducible first | apply Wp.callN | apply Wp.callK); (with_reducible assumption)) | ((with_reducible apply Wp.outK); (with_reducible assumption)) | (with_reducible first | refine Wp.go0 (by assumption) ?_ | refine Wp.go1 (by assumption) ?_ | refine Wp.go2 (by assumption) ?_) | rw [newP_eq])
   rw [el]
   have := do1_len x c
   exact do_loop hdb ho rd hl todo (i + 1) fu (do1 x c) v'' H' hd2 (by omega) K' hL.2 (by omega) hk
  have g1 : ((D.set o (.bool x.th)).set (o + 1) v')[o + 1]? = some v' := List.getElem?_set_self (by rw [List.length_set]; exact ho)
  rcases hL.1 with h0 | ⟨h1, hc0, hc1⟩ | h2
  ·refine Wp.ift (beq_t (by omega)) ?_
   have ed : do1 x c = ⟨true, x.u ++ c.s⟩ := by unfold do1; rw [if_pos h0]
   rw [ed] at next
   refine Wp.obind (nilC_ptr _ _) (Wp.obind (fldP_ptr _ _ _) ?_)
   refine Wp.st1 kr (show o + 0 < _ by omega) rfl fun h4 k4' t4 n4 => ?_
   have kb4 := kb.tch t4 (fun b hb hm => K.ndb (List.mem_singleton.1 hm ▸ hb))
   have kl4 := M3.at0.1.tch t4 M3.at0.2.1 (by simpa using hne)
   have g4 : (((D.set o (.bool x.th)).set (o + 1) v').set (o + 0) (.bool true))[o + 1]? = some v' := by rw [List.getElem?_set_ne (by omega)]; exact g1
   obtain ⟨v'', h5, e5, kb5, t5, s5⟩ := kb4.app c.s (by rw [t4.2.1, hx3]) (by omega)
   refine Wp.obind (nilC_ptr _ _) (Wp.obind (fldP_ptr _ _ _) (Wp.obind (RowH.cell' k4' g4) (Wp.obind (RowH.cell' kl4 (show (chgC c)[1]? = some (strA c.s) from rfl)) (Wp.obind (avStr_str _) (Wp.outK e5 ?_)))))
   refine Wp.obind (nilC_ptr _ _) (Wp.obind (fldP_ptr _ _ _) ?_)
   rw [kb5.one.2]
   have hdb4 : db < h4.next := by omega
   have kr5 := k4'.tch t5 hdb4 K.ndb
   have n5 := t5.1
   refine Wp.st1 kr5 (show o + 1 < _ by rw [List.length_set]; exact hlen) kb5.one.1 fun h6 k6 t6 n6 => ?_
   have hnd : db ∉ blkV v'' := fun hb => by
    rcases s5 _ hb with hb | hb
    ·exact K.ndb hb
    ·omega
   have ts : ∀ b ∈ blkV v', b ∈ db :: blkV v ∨ h.next ≤ b := fun b hb => (K.sub b hb).imp (List.mem_cons_of_mem _) id
   have td : ∀ b ∈ [db], b ∈ db :: blkV v ∨ h.next ≤ b := fun b hb => .inl (by rw [List.mem_singleton.1 hb]; exact List.mem_cons_self)
   refine next h6 v'' ⟨?_, kb5.tch t6 (fun b hb hm => hnd (List.mem_singleton.1 hm ▸ hb)), hnd, fun b hb => ?_, (((K.tch.trans' t3 fun b hb => nomatch hb).trans' t4 td).trans' t5 ts).trans' t6 td, by rw [t6.2.1, t5.2.1, t4.2.1, hx3]⟩
   ·have k6' : RowH h6 db T ((((D.set o (.bool x.th)).set (o + 1) v').set o (.bool true)).set (o + 1) v'') := k6
    rw [set4] at k6'
    exact k6'
   ·rcases s5 b hb with hb | hb
    ·exact K.sub b hb
    ·omega
  ·refine Wp.iff (beq_f (by omega)) ?_
   have ed : do1 x c = ⟨x.th, x.u.take c.n.toNat⟩ := by unfold do1; rw [if_neg (by omega), if_pos h1]
   rw [ed] at next
   obtain ⟨v'', e5, kb5, hb5⟩ := kb.cut hc0 hc1
   refine Wp.lett ?_
   refine Wp.lettG fun k47 ek47 => ?_
   refine Wp.ift (beq_t (by omega)) ?_
   refine Wp.obind (nilC_ptr _ _) (Wp.obind (fldP_ptr _ _ _) (Wp.obind (RowH.cell' kr g1) (Wp.obind (RowH.cell' M3.at0.1 (show (chgC c)[2]? = some (.int .i64 c.n) from rfl)) (Wp.obind (avInt_int _ _) (Wp.outK e5 ?_)))))
   refine Wp.obind (nilC_ptr _ _) (Wp.obind (fldP_ptr _ _ _) ?_)
   rw [kb5.one.2]
   refine Wp.st1 kr (show o + 1 < _ by exact hlen) kb5.one.1 fun h6 k6 t6 n6 => ?_
   rw [ek47]
   have hnd : db ∉ blkV v'' := by rw [hb5]; exact K.ndb
   have td : ∀ b ∈ [db], b ∈ db :: blkV v ∨ h.next ≤ b := fun b hb => .inl (by rw [List.mem_singleton.1 hb]; exact List.mem_cons_self)
   refine next h6 v'' ⟨?_, kb5.tch t6 (fun b hb hm => hnd (List.mem_singleton.1 hm ▸ hb)), hnd, (by rw [hb5]; exact K.sub), (K.tch.trans' t3 fun b hb => nomatch hb).trans' t6 td, by rw [t6.2.1, hx3]⟩
   have k6' := k6
   rw [set3] at k6'
   exact k6'
  ·refine Wp.iff (beq_f (by omega)) ?_
   have ed : do1 x c = ⟨false, []⟩ := by unfold do1; rw [if_neg (by omega), if_neg (by omega)]
   rw [ed] at next
   refine Wp.lett ?_
   refine Wp.lettG fun k47 ek47 => ?_
   refine Wp.iff (beq_f (by omega)) ?_
   refine Wp.lett ?_
   refine Wp.lettG fun k62 ek62 => ?_
   refine Wp.ift (beq_t (by omega)) ?_
   refine Wp.obind (nilC_ptr _ _) ?_
   refine Wp.stN kr (rfl : ([.bool false, .nsl] : List AV).length = 2) (show o + 2 ≤ _ by exact hlen) rfl fun h6 k6 t6 n6 => ?_
   rw [ek62, ek47]
   have td : ∀ b ∈ [db], b ∈ db :: blkV v ∨ h.next ≤ b := fun b hb => .inl (by rw [List.mem_singleton.1 hb]; exact List.mem_cons_self)
   refine next h6 .nsl ⟨?_, .inl ⟨rfl, rfl⟩, (fun h => nomatch h), (fun _ h => nomatch h), (K.tch.trans' t3 fun b hb => nomatch hb).trans' t6 td, by rw [t6.2.1, hx3]⟩
   have k6' := k6
   rw [laid2 hlen, set4] at k6'
   exact k6'
theorem do_ok {x : Cont} (hn : 1000000 < n) (hdb : db < h.next) (kr : RowH h db T D) (h0 : D[o]? = some (.bool x.th)) (h1 : D[o + 1]? = some v) (kb : BufAt h v x.u) (hnd : db ∉ blkV v) (hx : h.ex = []) (rd : RdL h (db :: blkV v) lv l) (hl : l.length < 1000000) (hL : Legal x l) (hb : x.u.length + sumL l ≤ 100000000) :
  ∃ h' v', world n (d + 1) 61 [.ptr db o, lv] h = some (.ret (.tup []), h') ∧ DoAt h h' db T o D v v' (doL x l) := by
 suffices hK : Wp (world n (d + 1) 61 [.ptr db o, lv] h) fun r h' => r = .ret (.tup []) ∧ ∃ v', DoAt h h' db T o D v v' (doL x l) by
  obtain ⟨_, h', e, rfl, v', k⟩ := hK
  exact ⟨h', v', e, k⟩
 rw [w_disk_content_do]
 unfold disk_content_do
 refine Wp.obind rd.1 ?_
 refine Wp.lettG fun k4 ek => ?_
 have ho : o + 1 < D.length := (List.getElem?_eq_some_iff.1 h1).1
 have e0 : (D.set o (.bool x.th)).set (o + 1) v = D := by
  obtain ⟨_, e1⟩ := List.getElem?_eq_some_iff.1 h0
  obtain ⟨_, e2⟩ := List.getElem?_eq_some_iff.1 h1
  rw [← e1, List.set_getElem_self, ← e2, List.set_getElem_self]
 refine do_loop hdb ho rd hl l 0 n x v h (List.drop_zero) (by omega) ⟨by rw [e0]; exact kr, kb, hnd, fun b hb => .inl hb, Tch.refl _ _, hx⟩ hL hb fun H' v'' K => ?_
 rw [ek]
 exact Wp.ret ⟨rfl, v'', K⟩
end
noncomputable def chgsC : List Chg → List AV
 | [] => []
 | c :: l => chgC c ++ chgsC l
theorem chgsC_len : ∀ l : List Chg, (chgsC l).length = 3 * l.length
 | [] => rfl
 | c :: l => by
  have := chgsC_len l
  rw [chgsC, List.length_append, this, List.length_cons]
  show 3 + _ = _
  omega
theorem chgsC_app : ∀ a b : List Chg, chgsC (a ++ b) = chgsC a ++ chgsC b
 | [], _ => rfl
 | c :: a, b => by rw [List.cons_append, chgsC, chgsC_app a b, chgsC, List.append_assoc]
def LooseAt (h : AHeap) (v : AV) (l : List Chg) : Prop := (v = .nsl ∧ l = []) ∨ ∃ c, v = .sl c 0 l.length 3 ∧ RowH h c TChg (chgsC l) ∧ c < h.next
theorem fitChg : fitB Try.prog TChg 32 = true := by kernel_rfl
theorem bldSlChg (h : AHeap) (k : Int) (s : Bytes) (n : Int) : bldSl Try.prog h TChgs 1 [(0, .agg [.int .i64 k, strA s, .int .i64 n])] = outNewS h TChg [.int .i64 k, strA s, .int .i64 n] 1 3 := by kernel_rfl
theorem idx3 {b m i : Nat} (h : i < m) : idxP 3 (.sl b 0 m 3) (i : Int) = some (.ptr b (0 + i * 3)) := by
 have e : Nat.blt i m = true := by simpa using h
 show (match Nat.blt i m with | true => some (AV.ptr b (0 + i * 3)) | false => none) = _
 rw [e]
theorem firstRow {h : AHeap} {b e sz : Nat} {r : List AV} (kr : RowH h b e r) (hr : r.length = sz) : firstA h sz (0 + 1) (.sl b 0 1 sz) = some r := by
 rw [Nat.zero_add, firstA_of_row (Nat.le_refl _), Nat.one_mul]
 have := kr.part (o := 0) (n := r.length) (by omega)
 rw [List.drop_zero, List.take_length, hr] at this
 exact this
section
variable {h h' : AHeap} {v : AV} {l : List Chg} {b1 : Nat} {c : Chg}
theorem LooseAt.tch {S : List Nat} (k : LooseAt h v l) (t : Tch S h h') (hd : ∀ b ∈ blkV v, b ∉ S) : LooseAt h' v l := by
 rcases k with k | ⟨c, rfl, h2, h3⟩
 ·exact .inl k
 ·exact .inr ⟨c, rfl, h2.tch t h3 (hd c (List.mem_singleton.2 rfl)), Nat.lt_of_lt_of_le h3 t.1⟩
theorem LooseAt.lt (k : LooseAt h v l) : ∀ b ∈ blkV v, b < h.next := by
 rcases k with ⟨rfl, _⟩ | ⟨c, rfl, _, h3⟩
 ·exact fun b hb => nomatch hb
 ·intro b hb
  rw [List.mem_singleton.1 hb]
  exact h3
theorem LooseAt.one (k : LooseAt h v l) : v.one = true ∧ AV.cells v = [v] := by
 rcases k with ⟨rfl, rfl⟩ | ⟨c, rfl, _⟩ <;> exact ⟨rfl, rfl⟩
theorem chgs_ld {c i : Nat} {rest : List AV} (k : RowH h c TChg (chgsC l ++ rest)) (hi : i < l.length) : ldRow h 3 (.ptr c (0 + i * 3)) = some (chgC l[i]) := by
 have e : chgsC l = chgsC (l.take i) ++ (chgC l[i] ++ chgsC (l.drop (i + 1))) := by
  have := chgsC_app (l.take i) (l.drop i)
  rw [List.take_append_drop] at this
  rw [this, List.drop_eq_getElem_cons hi, chgsC]
 have hl : (chgsC (l.take i)).length = 0 + i * 3 := by rw [chgsC_len, List.length_take]; omega
 rw [k.ld (by rw [List.length_append, chgsC_len]; omega), e, List.append_assoc, List.append_assoc, List.drop_left' hl]
 congr 1
theorem LooseAt.rd {S : List Nat} (k : LooseAt h v l) (hS : ∀ b ∈ blkV v, b ∉ S) : RdL h S v l := by
 rcases k with ⟨rfl, rfl⟩ | ⟨c, rfl, h2, h3⟩
 ·exact ⟨rfl, fun _ _ i hi => absurd hi (Nat.not_lt_zero _)⟩
 ·refine ⟨rfl, fun H t i hi => ⟨_, idx3 hi, ?_⟩⟩
  have k2 := h2.tch t h3 (hS c (List.mem_singleton.2 rfl))
  exact chgs_ld (rest := []) (by rw [List.append_nil]; exact k2) hi
theorem LooseAt.push (k : LooseAt h v l) (kr : RowH h b1 TChg (chgC c)) (hm : l.length < 20000000) (hx : h.ex = []) :
  ∃ h', opAppend Try.prog h TChgs TChgs v (.sl b1 0 1 3) = some (.val (.sl h.next 0 (l.length + 1) 3), h') ∧ LooseAt h' (.sl h.next 0 (l.length + 1) 3) (l ++ [c]) ∧ Tch (blkV v) h h' := by
 have he : Abs.elemOf Try.prog TChgs = some TChg := by kernel_rfl
 have hu : notInt Try.prog TChgs = true := by kernel_rfl
 have hsz : Try.prog.cellsOf TChg = 3 := by kernel_rfl
 have hex : memB TChg h.ex = false := by rw [hx]; rfl
 have eb : chgsC (l ++ [c]) = chgsC l ++ chgC c := by
  rw [chgsC_app]
  show chgsC l ++ (chgC c ++ []) = _
  rw [List.append_nil]
 have el : l.length + 1 = (l ++ [c]).length := by rw [List.length_append, List.length_singleton]
 rcases k with ⟨rfl, rfl⟩ | ⟨b, rfl, h2, h3⟩
 ·have a1 := append_new (P := Try.prog) (h := h) (t := TChgs) (u := TChgs) (n := 0) (x := .sl b1 0 1 3) he hu hsz rfl (firstRow kr rfl) (bytesFit_of fitChg (by omega) (by omega)) rfl hex
  refine ⟨_, a1, .inr ⟨h.next, by rw [el], ?_, Nat.lt_succ_self _⟩, Tch.newH _ _ _ _⟩
  rw [eb]
  exact RowH.new _ _ _
 ·have hcl := chgsC_len l
  have a1 := append_more (P := Try.prog) (h := h) (t := TChgs) (u := TChgs) (b := b) (o := 0) (m := l.length) (n := 0) (x := .sl b1 0 1 3) (cs := chgsC l) he hu hsz rfl (firstRow kr rfl) (bytesFit_of fitChg (by omega) (by omega)) rfl hex (by
   have := h2.part (o := 0) (n := (chgsC l).length) (by omega)
   rw [List.drop_zero, List.take_length] at this
   rw [show l.length * 3 = (chgsC l).length by omega]
   exact this) h2.type
  refine ⟨_, a1, .inr ⟨h.next, by rw [el], ?_, Nat.lt_succ_self _⟩, (Tch.put (S := [b]) (.inl (List.mem_singleton.2 rfl)) _).trans (Tch.newH _ _ _ _)⟩
  rw [eb]
  exact RowH.new (h.put b .dead) _ _
end
structure FileS where
 sure : Cont
 seen : Cont
 loose : List Chg
def upd {α : Type} (f : Nat → α) (i : Nat) (x : α) : Nat → α := fun j => if j = i then x else f j
def FileOk (x : FileS) (B : Nat) : Prop := x.seen = doL x.sure x.loose ∧ Legal x.sure x.loose ∧ x.sure.u.length + sumL x.loose ≤ B ∧ x.loose.length ≤ B
structure FileC (D : List AV) (f : Nat) (x : FileS) (w : Nat → AV) : Prop where
 c0 : D[5 * f]? = some (.bool x.sure.th)
 c1 : D[5 * f + 1]? = some (w 0)
 c2 : D[5 * f + 2]? = some (.bool x.seen.th)
 c3 : D[5 * f + 3]? = some (w 1)
 c4 : D[5 * f + 4]? = some (w 2)
structure FileM (h : AHeap) (x : FileS) (w : Nat → AV) : Prop where
 sure : BufAt h (w 0) x.sure.u
 seen : BufAt h (w 1) x.seen.u
 loose : LooseAt h (w 2) x.loose
structure DiskAt (lo : Nat → Prop) (h : AHeap) (db : Nat) (D : List AV) (fs : Nat → FileS) (vs : Nat → Nat → AV) (p : Int) (ops B : Nat) : Prop where
 row : RowH h db TDisk D
 hdb : db < h.next
 hlo : lo db
 len : D.length = 162
 cells : ∀ f, f < 32 → FileC D f (fs f) (vs f)
 cp : D[160]? = some (.int .i64 p)
 co : D[161]? = some (.int .i64 (ops : Int))
 mem : ∀ f, f < 32 → FileM h (fs f) (vs f)
 own : ∃ g : Nat → Nat, g db = 0 ∧ ∀ f k, f < 32 → k < 3 → ∀ b ∈ blkV (vs f k), g b = 3 * f + k + 1
 low : ∀ f k, f < 32 → k < 3 → ∀ b ∈ blkV (vs f k), lo b
 ok : ∀ f, f < 32 → FileOk (fs f) B
 ex : h.ex = []
 hp : -1 ≤ p ∧ p < 9223372036854775808
 ho : ops ≤ B
 nw : ∀ b, h.next ≤ b → lo b
theorem FileM.lt {h : AHeap} {x : FileS} {w : Nat → AV} (k : FileM h x w) : ∀ i, i < 3 → ∀ b ∈ blkV (w i), b < h.next := by
 intro i hi
 rcases i with _ | _ | _ | i
 ·exact k.sure.lt
 ·exact k.seen.lt
 ·exact k.loose.lt
 ·omega
theorem FileM.tch {h h' : AHeap} {S : List Nat} {x : FileS} {w : Nat → AV} (k : FileM h x w) (t : Tch S h h') (hS : ∀ i, i < 3 → ∀ b ∈ blkV (w i), b ∉ S) : FileM h' x w :=
 ⟨k.sure.tch t (hS 0 (by decide)), k.seen.tch t (hS 1 (by decide)), k.loose.tch t (hS 2 (by decide))⟩
section
variable {lo : Nat → Prop} {n d db : Nat} {h h' : AHeap} {D D' : List AV} {fs : Nat → FileS} {vs : Nat → Nat → AV} {p : Int} {ops B B' f : Nat}
theorem DiskAt.lt (K : DiskAt lo h db D fs vs p ops B) {f k : Nat} (hf : f < 32) (hk : k < 3) : ∀ b ∈ blkV (vs f k), b < h.next := (K.mem f hf).lt k hk
theorem DiskAt.nd (K : DiskAt lo h db D fs vs p ops B) {f k : Nat} (hf : f < 32) (hk : k < 3) : db ∉ blkV (vs f k) := fun hb => by
 obtain ⟨g, g0, g1⟩ := K.own
 have := g1 f k hf hk _ hb
 omega
theorem DiskAt.ne (K : DiskAt lo h db D fs vs p ops B) {f k f' k' : Nat} (hf : f < 32) (hk : k < 3) (hf' : f' < 32) (hk' : k' < 3) (hne : ¬ (f = f' ∧ k = k')) : ∀ b ∈ blkV (vs f k), b ∉ blkV (vs f' k') := fun b hb hb' => by
 obtain ⟨g, g0, g1⟩ := K.own
 have h1 := g1 f k hf hk _ hb
 have h2 := g1 f' k' hf' hk' _ hb'
 omega
theorem DiskAt.upd {S : List Nat} {x : FileS} {w : Nat → AV} (K : DiskAt lo h db D fs vs p ops B) (hf : f < 32) (t : Tch S h h') (hS : ∀ b ∈ S, b = db ∨ ∃ k, k < 3 ∧ b ∈ blkV (vs f k)) (row : RowH h' db TDisk D') (hlen : D'.length = 162) (hc : FileC D' f x w) (rest : ∀ i, (i < 5 * f ∨ 5 * f + 5 ≤ i) → D'[i]? = D[i]?)
  (bw : ∀ k, k < 3 → ∀ b ∈ blkV (w k), b ∈ blkV (vs f k) ∨ h.next ≤ b) (bd : ∀ k l, k < 3 → l < 3 → k ≠ l → ∀ b ∈ blkV (w k), b ∉ blkV (w l)) (hm : FileM h' x w) (hok : FileOk x B') (hB : B ≤ B') : DiskAt lo h' db D' (upd fs f x) (upd vs f w) p ops B' := by
 obtain ⟨g, g0, g1⟩ := K.own
 have hle := t.1
 have hdn := K.hdb
 have ot : ∀ f', f' < 32 → f' ≠ f → ∀ k, k < 3 → ∀ b ∈ blkV (vs f' k), b ∉ S := fun f' hf' hne k hk b hb hm => by
  rcases hS b hm with rfl | ⟨k', hk', hb'⟩
  ·exact K.nd hf' hk hb
  ·exact K.ne hf' hk hf hk' (fun h => hne h.1) b hb hb'
 refine ⟨row, Nat.lt_of_lt_of_le hdn hle, K.hlo, hlen, fun f' hf' => ?_, ?_, ?_, fun f' hf' => ?_, ⟨fun b => if b < h.next then g b else if b ∈ blkV (w 0) then 3 * f + 1 else if b ∈ blkV (w 1) then 3 * f + 2 else 3 * f + 3, ?_, fun f' k hf' hk b hb => ?_⟩, fun f' k hf' hk b hb => ?_, fun f' hf' => ?_, by rw [t.2.1, K.ex], K.hp, Nat.le_trans K.ho hB, fun b hb => K.nw b (Nat.le_trans hle hb)⟩
 ·unfold Go.Proofs.Yteecmjmglmpbpaa.upd
  by_cases e : f' = f
  ·rw [if_pos e, if_pos e, e]
   exact hc
  ·rw [if_neg e, if_neg e]
   have hk := K.cells f' hf'
   have key : ∀ j, j < 5 → D'[5 * f' + j]? = D[5 * f' + j]? := fun j hj => rest _ (by omega)
   exact ⟨(key 0 (by decide)).trans hk.c0, (key 1 (by decide)).trans hk.c1, (key 2 (by decide)).trans hk.c2, (key 3 (by decide)).trans hk.c3, (key 4 (by decide)).trans hk.c4⟩
 ·rw [rest _ (by omega)]
  exact K.cp
 ·rw [rest _ (by omega)]
  exact K.co
 ·unfold Go.Proofs.Yteecmjmglmpbpaa.upd
  by_cases e : f' = f
  ·rw [if_pos e, if_pos e]
   exact hm
  ·rw [if_neg e, if_neg e]
   exact (K.mem f' hf').tch t (ot f' hf' e)
 ·show (if db < h.next then g db else _) = 0
  rw [if_pos hdn]
  exact g0
 ·show (if b < h.next then g b else _) = _
  unfold Go.Proofs.Yteecmjmglmpbpaa.upd at hb
  by_cases e : f' = f
  ·rw [if_pos e] at hb
   subst e
   by_cases hl : b < h.next
   ·rw [if_pos hl]
    rcases bw k hk b hb with hb' | hb'
    ·exact g1 f' k hf' hk b hb'
    ·omega
   ·rw [if_neg hl]
    rcases k with _ | _ | _ | k
    ·rw [if_pos hb]
    ·rw [if_neg (bd 1 0 (by decide) (by decide) (by decide) b hb), if_pos hb]
    ·rw [if_neg (bd 2 0 (by decide) (by decide) (by decide) b hb), if_neg (bd 2 1 (by decide) (by decide) (by decide) b hb)]
    ·omega
  ·rw [if_neg e] at hb
   rw [if_pos (K.lt hf' hk b hb)]
   exact g1 f' k hf' hk b hb
 ·unfold Go.Proofs.Yteecmjmglmpbpaa.upd at hb
  by_cases e : f' = f
  ·rw [if_pos e] at hb
   rcases bw k hk b hb with hb' | hb'
   ·exact K.low f k hf hk b hb'
   ·exact K.nw b hb'
  ·rw [if_neg e] at hb
   exact K.low f' k hf' hk b hb
 ·unfold Go.Proofs.Yteecmjmglmpbpaa.upd
  by_cases e : f' = f
  ·rw [if_pos e]
   exact hok
  ·rw [if_neg e]
   obtain ⟨o1, o2, o3, o4⟩ := K.ok f' hf'
   exact ⟨o1, o2, by omega, by omega⟩
theorem DiskAt.tch {S : List Nat} (K : DiskAt lo h db D fs vs p ops B) (t : Tch S h h') (hS : ∀ b ∈ S, ¬ lo b ∨ h.next ≤ b) : DiskAt lo h' db D fs vs p ops B := by
 have hd := K.hdb
 have hl := K.hlo
 refine ⟨K.row.tch t hd fun hb => ?_, Nat.lt_of_lt_of_le hd t.1, hl, K.len, K.cells, K.cp, K.co, fun f hf => (K.mem f hf).tch t fun k hk b hb hm => ?_, K.own, K.low, K.ok, by rw [t.2.1, K.ex], K.hp, K.ho, fun b hb => K.nw b (Nat.le_trans t.1 hb)⟩
 ·rcases hS _ hb with hb | hb
  ·exact hb hl
  ·omega
 ·have h2 := K.lt hf hk b hb
  rcases hS _ hm with hm | hm
  ·exact hm (K.low f k hf hk b hb)
  ·omega
theorem eqDisk (b o : Nat) (h : AHeap) : opBin Try.prog h .eql 23 true (some (.ptr b o)) (some AV.nilp) = some (.val (.bool false), h) := by kernel_rfl
theorem neqDisk (b o : Nat) (h : AHeap) : opBin Try.prog h .neq 23 true (some (.ptr b o)) (some AV.nilp) = some (.val (.bool true), h) := by kernel_rfl
def stepP (p : Int) : Int := if 0 < p then p - 1 else p
theorem step_ok (K : DiskAt lo h db D fs vs p ops B) (hB : B < 10000000) : ∃ h' D', world n (d + 1) 62 [.ptr db 0] h = some (.ret (.tup []), h') ∧ DiskAt lo h' db D' fs vs (stepP p) (ops + 1) (B + 1) ∧ Tch [db] h h' := by
 suffices hK : Wp (world n (d + 1) 62 [.ptr db 0] h) fun r h' => ∃ D', r = .ret (.tup []) ∧ DiskAt lo h' db D' fs vs (stepP p) (ops + 1) (B + 1) ∧ Tch [db] h h' by
  obtain ⟨_, h', e, D', rfl, k⟩ := hK
  exact ⟨h', D', e, k⟩
 rw [w_disk_Disk_step]
 unfold disk_Disk_step
 have hp := K.hp
 have ho := K.ho
 have hl := K.len
 have fin : ∀ {H : AHeap} {E : List AV}, RowH H db TDisk E → E.length = 162 → (∀ i, i < 160 → E[i]? = D[i]?) → E[160]? = some (.int .i64 (stepP p)) → E[161]? = some (.int .i64 ((ops + 1 : Nat) : Int)) → Tch [db] h H → DiskAt lo H db E fs vs (stepP p) (ops + 1) (B + 1) := by
  intro H E kr hE hr e1 e2 t
  refine ⟨kr, Nat.lt_of_lt_of_le K.hdb t.1, K.hlo, hE, fun f hf => ?_, e1, e2, fun f hf => (K.mem f hf).tch t fun k hk b hb hm => K.nd hf hk (List.mem_singleton.1 hm ▸ hb), K.own, K.low, fun f hf => ?_, by rw [t.2.1, K.ex], ?_, by omega, fun b hb => K.nw b (Nat.le_trans t.1 hb)⟩
  ·have hk := K.cells f hf
   have key : ∀ j, j < 5 → E[5 * f + j]? = D[5 * f + j]? := fun j hj => hr _ (by omega)
   exact ⟨(key 0 (by decide)).trans hk.c0, (key 1 (by decide)).trans hk.c1, (key 2 (by decide)).trans hk.c2, (key 3 (by decide)).trans hk.c3, (key 4 (by decide)).trans hk.c4⟩
  ·obtain ⟨o1, o2, o3, o4⟩ := K.ok f hf
   exact ⟨o1, o2, by omega, by omega⟩
  ·unfold stepP
   split <;> omega
 have c1 := RowH.cell' K.row K.co
 refine Wp.obind (nilC_ptr _ _) (Wp.obind (fldP_ptr _ _ _) (Wp.obind c1 (Wp.obind (avInt_int _ _) ?_)))
 refine Wp.lettw (by omega) (by omega) ?_
 refine Wp.obind (nilC_ptr _ _) (Wp.obind (fldP_ptr _ _ _) ?_)
 refine Wp.st1 K.row (show 0 + 161 < D.length by omega) rfl fun h2 k2 t2 n2 => ?_
 have g0 : (D.set (0 + 161) (.int .i64 ((ops : Int) + 1)))[0 + 160]? = some (.int .i64 p) := by
  rw [List.getElem?_set_ne (by omega)]
  exact K.cp
 have g1 : (D.set (0 + 161) (.int .i64 ((ops : Int) + 1)))[161]? = some (.int .i64 ((ops + 1 : Nat) : Int)) := by
  rw [List.getElem?_set_self (by omega)]
  rfl
 refine Wp.obind (nilC_ptr _ _) (Wp.obind (fldP_ptr _ _ _) (Wp.obind (RowH.cell' k2 g0) (Wp.obind (avInt_int _ _) ?_)))
 refine Wp.lett ?_
 refine Wp.lettG fun k17 ek => ?_
 by_cases h0 : 0 < p
 ·refine Wp.ift (by rw [decide_eq_true_eq]; exact h0) ?_
  refine Wp.obind (nilC_ptr _ _) (Wp.obind (fldP_ptr _ _ _) (Wp.obind (RowH.cell' k2 g0) (Wp.obind (avInt_int _ _) ?_)))
  refine Wp.lettw (by omega) (by omega) ?_
  refine Wp.obind (nilC_ptr _ _) (Wp.obind (fldP_ptr _ _ _) ?_)
  refine Wp.st1 k2 (show 0 + 160 < _ by rw [List.length_set]; omega) rfl fun h3 k3 t3 n3 => ?_
  rw [ek]
  refine Wp.ret ⟨_, rfl, fin k3 (by rw [List.length_set, List.length_set]; exact hl) (fun i hi => by rw [List.getElem?_set_ne (by omega), List.getElem?_set_ne (by omega)]) ?_ (by rw [List.getElem?_set_ne (by omega)]; exact g1) (t2.trans t3), t2.trans t3⟩
  rw [List.getElem?_set_self (by rw [List.length_set]; omega)]
  unfold stepP
  rw [if_pos h0]
 ·refine Wp.iff (by rw [decide_eq_false_iff_not]; exact h0) ?_
  rw [ek]
  refine Wp.ret ⟨_, rfl, fin k2 (by rw [List.length_set]; exact hl) (fun i hi => by rw [List.getElem?_set_ne (by omega)]) ?_ g1 t2, t2⟩
  have g0' := g0
  rw [Nat.zero_add] at g0'
  unfold stepP
  rw [if_neg h0]
  exact g0'
theorem on_w (K : DiskAt lo h db D fs vs p ops B) : world n (d + 1) 28 [.ptr db 0] h = some (.ret (.bool (decide (p ≠ 0))), h) := by
 apply Wp.eq
 rw [w_disk_Disk_On]
 unfold disk_Disk_On
 have e : (p != 0) = decide (p ≠ 0) := by
  by_cases h0 : p = 0
  ·subst h0
   rfl
  ·rw [bne_iff_ne.2 h0, decide_eq_true h0]
 refine Wp.outK (neqDisk db 0 h) (Wp.obind (avBool_bool _) ?_)
 refine Wp.lettG fun j11 ej => ?_
 refine Wp.ift rfl ?_
 refine Wp.obind (nilC_ptr _ _) (Wp.obind (fldP_ptr _ _ _) (Wp.obind (RowH.cell' K.row (by rw [Nat.zero_add]; exact K.cp)) (Wp.obind (avInt_int _ _) ?_)))
 refine Wp.lett ?_
 rw [ej, e]
 exact Wp.ret ⟨rfl, rfl⟩
theorem isFile_w (z : Int) : world n (d + 1) 51 [.int .i64 z] h = some (.ret (.bool (decide (0 ≤ z ∧ z < 32))), h) := by
 apply Wp.eq
 rw [w_disk_isFile]
 refine Wp.gc ?_
 suffices hK : Wp (disk_isFile (world n d) n z h) fun r h' => r = .ret (.bool (decide (0 ≤ z ∧ z < 32))) ∧ h' = h from hK.mono fun r h' ⟨e, t⟩ => ⟨by rw [t]; exact (Tch.refl [] h).above, by rw [e]; rfl, e, rfl⟩
 unfold disk_isFile
 refine Wp.lett ?_
 refine Wp.lettG fun j8 ej => ?_
 by_cases h0 : 0 ≤ z
 ·refine Wp.ift (by rw [decide_eq_true_eq]; exact h0) ?_
  refine Wp.lett ?_
  rw [ej]
  have e : decide (z < 32) = decide (0 ≤ z ∧ z < 32) := decide_eq_decide.2 ⟨fun h => ⟨h0, h⟩, fun h => h.2⟩
  rw [e]
  exact Wp.ret ⟨rfl, rfl⟩
 ·refine Wp.iff (by rw [decide_eq_false_iff_not]; exact h0) ?_
  rw [ej, decide_eq_false (show ¬ (0 ≤ z ∧ z < 32) from fun h => h0 h.1)]
  exact Wp.ret ⟨rfl, rfl⟩
def refP (p z : Int) : Int := if p = 0 then 40 else if 0 ≤ z ∧ z < 32 then 0 else 2
theorem refuses_w (K : DiskAt lo h db D fs vs p ops B) (z : Int) : world n (d + 2) 45 [.ptr db 0, .int .i64 z] h = some (.ret (.int .i64 (refP p z)), h) := by
 apply Wp.eq
 rw [w_disk_Disk_refuses]
 unfold disk_Disk_refuses
 refine Wp.outK (eqDisk db 0 h) (Wp.obind (avBool_bool _) (Wp.iff rfl ?_))
 refine Wp.callN (on_w K) (Wp.obind (avBool_bool _) ?_)
 unfold refP
 by_cases h0 : p = 0
 ·rw [if_pos h0, decide_eq_false (show ¬ p ≠ 0 from fun h => h h0)]
  repeat (first | (with_reducible first | refine Wp.join0 (fun _ _ => ?_) | refine Wp.join1 (fun _ _ => ?_) | refine Wp.join2 (fun _ _ => ?_)) | ((with_reducible first | refine Wp.lettw ?_ ?_ ?_ | refine Wp.lettu64 ?_ ?_ ?_ | refine Wp.lettu8 ?_ ?_ ?_ | refine Wp.lettu32 ?_ ?_ ?_); omega; omega) | (with_reducible refine Wp.lett ?_) | ((with_reducible apply Wp.obind); first | (with_reducible first | exact avInt_int _ _ | exact avBool_bool _ | exact avStr_str _ | exact nilC_ptr _ _ | exact fldP_ptr _ _ _ | exact avAgg_agg _ | exact extT_0 _ _ | exact extT_1 _ _ _ | exact extT_2 _ _ _ _ | assumption) | ((with_reducible first | apply RowH.cell' | apply RowH.ldAll); (with_reducible assumption); rfl)) | ((with_reducible refine Wp.ift ?_ ?_); first | (with_reducible first | rfl | assumption | exact Bool.not_false) | ((with_reducible first | apply decide_eq_true | apply not_df | apply bne_t | apply beq_t); omega)) | ((with_reducible refine Wp.iff ?_ ?_); first | (with_reducible first | rfl | assumption | exact Bool.not_true) | ((with_reducible first | apply decide_eq_false | apply not_dt | apply bne_f | apply beq_f); omega)) | ((with_reducible first | apply Wp.callN | apply Wp.callK); (with_reducible assumption)) | ((with_reducible apply Wp.outK); (with_reducible assumption)) | (with_reducible first | refine Wp.go0 (by assumption) ?_ | refine Wp.go1 (by assumption) ?_ | refine Wp.go2 (by assumption) ?_) | rw [newP_eq])
  exact Wp.ret ⟨rfl, rfl⟩
 ·rw [if_neg h0, decide_eq_true (show p ≠ 0 from h0)]
  refine Wp.lett (Wp.iff rfl ?_)
  refine Wp.callN (isFile_w z) (Wp.obind (avBool_bool _) ?_)
  by_cases h1 : 0 ≤ z ∧ z < 32
  ·rw [if_pos h1, decide_eq_true h1]
   repeat (first | (with_reducible first | refine Wp.join0 (fun _ _ => ?_) | refine Wp.join1 (fun _ _ => ?_) | refine Wp.join2 (fun _ _ => ?_)) | ((with_reducible first | refine Wp.lettw ?_ ?_ ?_ | refine Wp.lettu64 ?_ ?_ ?_ | refine Wp.lettu8 ?_ ?_ ?_ | refine Wp.lettu32 ?_ ?_ ?_); omega; omega) | (with_reducible refine Wp.lett ?_) | ((with_reducible apply Wp.obind); first | (with_reducible first | exact avInt_int _ _ | exact avBool_bool _ | exact avStr_str _ | exact nilC_ptr _ _ | exact fldP_ptr _ _ _ | exact avAgg_agg _ | exact extT_0 _ _ | exact extT_1 _ _ _ | exact extT_2 _ _ _ _ | assumption) | ((with_reducible first | apply RowH.cell' | apply RowH.ldAll); (with_reducible assumption); rfl)) | ((with_reducible refine Wp.ift ?_ ?_); first | (with_reducible first | rfl | assumption | exact Bool.not_false) | ((with_reducible first | apply decide_eq_true | apply not_df | apply bne_t | apply beq_t); omega)) | ((with_reducible refine Wp.iff ?_ ?_); first | (with_reducible first | rfl | assumption | exact Bool.not_true) | ((with_reducible first | apply decide_eq_false | apply not_dt | apply bne_f | apply beq_f); omega)) | ((with_reducible first | apply Wp.callN | apply Wp.callK); (with_reducible assumption)) | ((with_reducible apply Wp.outK); (with_reducible assumption)) | (with_reducible first | refine Wp.go0 (by assumption) ?_ | refine Wp.go1 (by assumption) ?_ | refine Wp.go2 (by assumption) ?_) | rw [newP_eq])
   exact Wp.ret ⟨rfl, rfl⟩
  ·rw [if_neg h1, decide_eq_false h1]
   repeat (first | (with_reducible first | refine Wp.join0 (fun _ _ => ?_) | refine Wp.join1 (fun _ _ => ?_) | refine Wp.join2 (fun _ _ => ?_)) | ((with_reducible first | refine Wp.lettw ?_ ?_ ?_ | refine Wp.lettu64 ?_ ?_ ?_ | refine Wp.lettu8 ?_ ?_ ?_ | refine Wp.lettu32 ?_ ?_ ?_); omega; omega) | (with_reducible refine Wp.lett ?_) | ((with_reducible apply Wp.obind); first | (with_reducible first | exact avInt_int _ _ | exact avBool_bool _ | exact avStr_str _ | exact nilC_ptr _ _ | exact fldP_ptr _ _ _ | exact avAgg_agg _ | exact extT_0 _ _ | exact extT_1 _ _ _ | exact extT_2 _ _ _ _ | assumption) | ((with_reducible first | apply RowH.cell' | apply RowH.ldAll); (with_reducible assumption); rfl)) | ((with_reducible refine Wp.ift ?_ ?_); first | (with_reducible first | rfl | assumption | exact Bool.not_false) | ((with_reducible first | apply decide_eq_true | apply not_df | apply bne_t | apply beq_t); omega)) | ((with_reducible refine Wp.iff ?_ ?_); first | (with_reducible first | rfl | assumption | exact Bool.not_true) | ((with_reducible first | apply decide_eq_false | apply not_dt | apply bne_f | apply beq_f); omega)) | ((with_reducible first | apply Wp.callN | apply Wp.callK); (with_reducible assumption)) | ((with_reducible apply Wp.outK); (with_reducible assumption)) | (with_reducible first | refine Wp.go0 (by assumption) ?_ | refine Wp.go1 (by assumption) ?_ | refine Wp.go2 (by assumption) ?_) | rw [newP_eq])
   exact Wp.ret ⟨rfl, rfl⟩
end
theorem idxF {b i : Nat} (h : i < 32) : idxA 32 5 (.ptr b (0 + 0)) (i : Int) = some (.ptr b (5 * i)) := by
 have e : Nat.blt i 32 = true := by simpa using h
 show (match Nat.blt i 32 with | true => some (AV.ptr b (0 + 0 + i * 5)) | false => none) = _
 rw [e, show 0 + 0 + i * 5 = 5 * i by omega]
section
variable {lo : Nat → Prop} {n d db : Nat} {h : AHeap} {D : List AV} {fs : Nat → FileS} {vs : Nat → Nat → AV} {p : Int} {ops B f : Nat}
def moreF (x : FileS) (c : Chg) : FileS := ⟨x.sure, do1 x.seen c, x.loose ++ [c]⟩
theorem moreF_ok {x : FileS} {c : Chg} {B : Nat} (k : FileOk x B) (hl : legal x.seen c) : FileOk (moreF x c) (B + c.s.length + 1) := by
 obtain ⟨k1, k2, k3, k4⟩ := k
 refine ⟨?_, ?_, ?_, ?_⟩
 ·show do1 x.seen c = doL x.sure (x.loose ++ [c])
  rw [doL_snoc, ← k1]
 ·exact Legal_snoc _ _ _ k2 (by show legal (doL x.sure x.loose) c; rw [← k1]; exact hl)
 ·show x.sure.u.length + sumL (x.loose ++ [c]) ≤ _
  rw [sumL_snoc]
  omega
 ·show (x.loose ++ [c]).length ≤ _
  rw [List.length_append, List.length_singleton]
  omega
theorem change_ok (hn : 1000000 < n) (K : DiskAt lo h db D fs vs p ops B) (hf : f < 32) {c : Chg} (hL : legal (fs f).seen c) (hb : B + c.s.length < 9000000) :
  ∃ h' D' vs' S, world n (d + 2) 46 [.ptr db 0, .int .i64 (f : Int), .agg (chgC c)] h = some (.ret (.int .i64 0), h') ∧ DiskAt lo h' db D' (upd fs f (moreF (fs f) c)) vs' (stepP p) (ops + 1) (B + c.s.length + 2) ∧ Tch S h h' ∧ ∀ b ∈ S, lo b := by
 suffices hK : Wp (world n (d + 2) 46 [.ptr db 0, .int .i64 (f : Int), .agg (chgC c)] h) fun r h' => ∃ D' vs' S, r = .ret (.int .i64 0) ∧ DiskAt lo h' db D' (upd fs f (moreF (fs f) c)) vs' (stepP p) (ops + 1) (B + c.s.length + 2) ∧ Tch S h h' ∧ ∀ b ∈ S, lo b by
  obtain ⟨_, h', e, D', vs', S, rfl, k⟩ := hK
  exact ⟨h', D', vs', S, e, k⟩
 have C := K.cells f hf
 have Mf := K.mem f hf
 obtain ⟨o1, o2, o3, o4⟩ := K.ok f hf
 have hlen := K.len
 have hdb := K.hdb
 have hsl := doL_len (fs f).loose (fs f).sure
 rw [← o1] at hsl
 rw [w_disk_Disk_change]
 unfold disk_Disk_change
 refine Wp.mbox (Mem.nil [] h) rfl fun h2 M2 => ?_
 have t2 := M2.tch
 refine Wp.obind (nilC_ptr _ _) (Wp.obind (fldP_ptr _ _ _) (Wp.obind (idxF hf) (Wp.obind (nilC_ptr _ _) (Wp.obind (fldP_ptr _ _ _) (Wp.obind (RowH.ldAll M2.at0.1 rfl) ?_)))))
 refine Wp.mnews M2 (bldSlChg _ _ _ _) rfl (by rw [K.ex]; rfl) fun h3 M3 => ?_
 have t3 := M3.tch
 have hn2 := t2.1
 have hh2 := M2.at0.2.1
 have hh3 := M3.at0.2.1
 have hne1 : h.next ≠ h2.next := by omega
 have rd : RdL h3 (db :: blkV (vs f 1)) (.sl h2.next 0 1 3) [c] := by
  refine ⟨rfl, fun H t i hi => ?_⟩
  have hi0 : i = 0 := by
   have : i < 1 := hi
   omega
  subst hi0
  refine ⟨_, idx3 (by decide), ?_⟩
  refine RowH.ldAll (M3.at0.1.tch t hh3 fun hm => ?_) rfl
  rcases List.mem_cons.1 hm with hm | hm
  ·omega
  ·have := K.lt hf (k := 1) (by decide) _ hm
   omega
 obtain ⟨h4, v4, e4, K4⟩ := do_ok (n := n) (d := d) (T := TDisk) (o := 5 * f + 2) (x := (fs f).seen) hn (Nat.lt_of_lt_of_le hdb t3.1) (K.row.tch t3 hdb (by simp)) C.c2 C.c3 (Mf.seen.tch t3 (fun _ _ => by simp)) (K.nd hf (by decide)) (by rw [t3.2.1, K.ex]) rd (by show 1 < 1000000; decide) ⟨hL, trivial⟩ (by show _ + (c.s.length + 0) ≤ _; omega)
 refine Wp.callN e4 (Wp.obind (nilC_ptr _ _) (Wp.obind (fldP_ptr _ _ _) ?_))
 have hd4 : doL (fs f).seen [c] = do1 (fs f).seen c := rfl
 rw [hd4] at K4
 have g4 : ((D.set (5 * f + 2) (.bool (do1 (fs f).seen c).th)).set (5 * f + 2 + 1) v4)[5 * f + 4]? = some (vs f 2) := by
  rw [List.getElem?_set_ne (by omega), List.getElem?_set_ne (by omega)]
  exact C.c4
 have hn34 := K4.tch.1
 have hb1 : h.next ∉ db :: blkV (vs f 1) := fun hm => by
  rcases List.mem_cons.1 hm with hm | hm
  ·omega
  ·have := K.lt hf (k := 1) (by decide) _ hm
   omega
 have kb4 := M3.at1.1.tch K4.tch M3.at1.2.1 hb1
 refine Wp.obind (RowH.cell' K4.row g4) (Wp.obind (RowH.ldAll kb4 rfl) ?_)
 refine Wp.mnews (Mem.nil [] h4) (bldSlChg _ _ _ _) rfl (by rw [K4.ex]; rfl) fun h5 M5 => ?_
 have t5 := M5.tch
 have hdb3 : db < h3.next := Nat.lt_of_lt_of_le hdb t3.1
 have hdb4 : db < h4.next := Nat.lt_of_lt_of_le hdb3 hn34
 have kr5 := K4.row.tch t5 hdb4 (by simp)
 refine Wp.chk (and_t rfl (and_t (reLoad_c (by kernel_rfl) (RowH.cell' kr5 g4)) rfl)) ?_
 have dis12 : ∀ b ∈ blkV (vs f 2), b ∉ db :: blkV (vs f 1) := fun b hb hm => by
  rcases List.mem_cons.1 hm with rfl | hm
  ·exact K.nd hf (by decide) hb
  ·exact K.ne hf (by decide) hf (by decide) (fun h => absurd h.2 (by decide)) b hb hm
 have kl5 := ((Mf.loose.tch t3 (fun _ _ => by simp)).tch K4.tch dis12).tch t5 (fun _ _ => by simp)
 obtain ⟨h6, e6, kl6, t6⟩ := kl5.push M5.at0.1 (by omega) (by rw [t5.2.1, K4.ex])
 refine Wp.outK e6 (Wp.obind (nilC_ptr _ _) (Wp.obind (fldP_ptr _ _ _) ?_))
 have hn5 := t5.1
 have hn6 := t6.1
 have hdb5 : db < h5.next := Nat.lt_of_lt_of_le hdb4 hn5
 have kr6 := kr5.tch t6 hdb5 (K.nd hf (by decide))
 have l6 : ((D.set (5 * f + 2) (.bool (do1 (fs f).seen c).th)).set (5 * f + 2 + 1) v4).length = 162 := by rw [List.length_set, List.length_set]; exact hlen
 show Wp (Abs.obind (stRow h6 1 [AV.sl h5.next 0 ((fs f).loose.length + 1) 3] (.ptr db (5 * f + 4))) _) _
 refine Wp.st1 kr6 (show 5 * f + 4 < _ by omega) rfl fun h7 k7 t7 n7 => ?_
 -- the disk behind it
 have n35 : h3.next ≤ h5.next := Nat.le_trans hn34 hn5
 have hv4 : ∀ b ∈ blkV v4, b < h5.next := fun b hb => Nat.lt_of_lt_of_le (K4.buf.lt b hb) hn5
 have hv4s : ∀ b ∈ blkV v4, b ∈ blkV (vs f 1) ∨ h.next ≤ b := fun b hb => (K4.sub b hb).imp id fun h => Nat.le_trans t3.1 h
 have T : Tch (db :: (blkV (vs f 1) ++ blkV (vs f 2))) h h7 := by
  refine ((((t3.mono fun b hb => nomatch hb).trans (K4.tch.mono fun b hb => .inl ?_)).trans' t5 fun b hb => nomatch hb).trans' t6 fun b hb => .inl ?_).trans' t7 fun b hb => .inl ?_
  ·rcases List.mem_cons.1 hb with hb | hb
   ·rw [hb]; exact List.mem_cons_self
   ·exact List.mem_cons_of_mem _ (List.mem_append_left _ hb)
  ·exact List.mem_cons_of_mem _ (List.mem_append_right _ hb)
  ·rw [List.mem_singleton.1 hb]; exact List.mem_cons_self
 have hw : ∀ b ∈ blkV (.sl h5.next 0 ((fs f).loose.length + 1) 3), b = h5.next := fun b hb => List.mem_singleton.1 hb
 have KU := K.upd (B' := B + c.s.length + 1) (x := moreF (fs f) c) (w := fun k => if k = 0 then vs f 0 else if k = 1 then v4 else .sl h5.next 0 ((fs f).loose.length + 1) 3) hf T (fun b hb => ?_) k7 (by rw [List.length_set]; exact l6) ⟨?_, ?_, ?_, ?_, ?_⟩ (fun i hi => ?_) (fun k hk b hb => ?_) (fun k l hk hl hne b hb hb' => ?_) ⟨?_, ?_, ?_⟩ (moreF_ok (K.ok f hf) hL) (by omega)
 ·obtain ⟨h8, D8, e8, K8, t8⟩ := step_ok (n := n) (d := d) KU (by omega)
  refine Wp.callN e8 ?_
  refine Wp.ret ⟨D8, _, db :: (blkV (vs f 1) ++ blkV (vs f 2)), rfl, K8, T.trans' t8 fun b hb => .inl (by rw [List.mem_singleton.1 hb]; exact List.mem_cons_self), fun b hb => ?_⟩
  rcases List.mem_cons.1 hb with hb | hb
  ·rw [hb]
   exact K.hlo
  ·rcases List.mem_append.1 hb with hb | hb
   ·exact K.low f 1 hf (by decide) b hb
   ·exact K.low f 2 hf (by decide) b hb
 ·rcases List.mem_cons.1 hb with hb | hb
  ·exact .inl hb
  ·rcases List.mem_append.1 hb with hb | hb
   ·exact .inr ⟨1, by decide, hb⟩
   ·exact .inr ⟨2, by decide, hb⟩
 ·rw [List.getElem?_set_ne (by omega), List.getElem?_set_ne (by omega), List.getElem?_set_ne (by omega)]
  exact C.c0
 ·rw [List.getElem?_set_ne (by omega), List.getElem?_set_ne (by omega), List.getElem?_set_ne (by omega)]
  exact C.c1
 ·rw [List.getElem?_set_ne (by omega), List.getElem?_set_ne (by omega), List.getElem?_set_self (by omega)]
  rfl
 ·rw [List.getElem?_set_ne (by omega), List.getElem?_set_self (by rw [List.length_set]; omega)]
  rfl
 ·rw [List.getElem?_set_self (by omega)]
  rfl
 ·rw [List.getElem?_set_ne (by omega), List.getElem?_set_ne (by omega), List.getElem?_set_ne (by omega)]
 ·rcases k with _ | _ | k
  ·exact .inl hb
  ·exact hv4s b hb
  ·right
   have := hw b hb
   omega
 ·have k0 : ∀ k, k < 3 → ∀ b ∈ blkV ((fun k => if k = 0 then vs f 0 else if k = 1 then v4 else AV.sl h5.next 0 ((fs f).loose.length + 1) 3) k), (k = 0 ∧ b ∈ blkV (vs f 0)) ∨ (k = 1 ∧ b ∈ blkV v4) ∨ (k = 2 ∧ b = h5.next) := by
   intro k hk b hb
   rcases k with _ | _ | _ | k
   ·exact .inl ⟨rfl, hb⟩
   ·exact .inr (.inl ⟨rfl, hb⟩)
   ·exact .inr (.inr ⟨rfl, hw b hb⟩)
   ·omega
  have q01 : b ∈ blkV (vs f 0) → b ∈ blkV v4 → False := fun h0 h1 => by
   rcases hv4s b h1 with h1 | h1
   ·exact K.ne hf (by decide) hf (by decide) (fun h => absurd h.2 (by decide)) b h0 h1
   ·have := K.lt hf (k := 0) (by decide) b h0
    omega
  have q02 : b ∈ blkV (vs f 0) → b < h5.next := fun h0 => by
   have := K.lt hf (k := 0) (by decide) b h0
   have := t3.1
   omega
  rcases k0 k hk b hb with ⟨e1, b1⟩ | ⟨e1, b1⟩ | ⟨e1, b1⟩ <;> rcases k0 l hl b hb' with ⟨e2, b2⟩ | ⟨e2, b2⟩ | ⟨e2, b2⟩
  ·omega
  ·exact q01 b1 b2
  ·have := q02 b1
   omega
  ·exact q01 b2 b1
  ·omega
  ·have := hv4 b b1
   omega
  ·have := q02 b2
   omega
  ·have := hv4 b b2
   omega
  ·omega
 ·refine Mf.sure.tch T fun b hb hm => ?_
  rcases List.mem_cons.1 hm with rfl | hm
  ·exact K.nd hf (by decide) hb
  ·rcases List.mem_append.1 hm with hm | hm
   ·exact K.ne hf (by decide) hf (by decide) (fun h => absurd h.2 (by decide)) b hb hm
   ·exact K.ne hf (by decide) hf (by decide) (fun h => absurd h.2 (by decide)) b hb hm
 ·refine ((K4.buf.tch t5 (fun _ _ => by simp)).tch t6 fun b hb hm => ?_).tch t7 fun b hb hm => K4.ndb (List.mem_singleton.1 hm ▸ hb)
  rcases hv4s b hb with hb | hb
  ·exact K.ne hf (by decide) hf (by decide) (fun h => absurd h.2 (by decide)) b hb hm
  ·have := K.lt hf (k := 2) (by decide) b hm
   omega
 ·refine kl6.tch t7 fun b hb hm => ?_
  have h1 := hw b hb
  have h2 := List.mem_singleton.1 hm
  omega
end
end Go.Proofs.Yteecmjmglmpbpaa
namespace Go.Proofs.Yteecmjmglmpbpaa
open Go.RowKit Abs
structure DS where
 fs : Nat → FileS
 p : Int
 ops : Nat
def At (lo : Nat → Prop) (h : AHeap) (db : Nat) (s : DS) (B : Nat) : Prop := ∃ D vs, DiskAt lo h db D s.fs vs s.p s.ops B
def ownE (x : FileS) (c : Chg) : Int := if c.k = 0 then (if (1048576 : Int) - (x.seen.u.length : Int) < (c.s.length : Int) then 8 else 0) else if x.seen.th = false then 4 else if c.k = 1 ∧ (c.n < 0 ∨ (x.seen.u.length : Int) < c.n) then 5 else 0
def errP (s : DS) (z : Int) (c : Chg) : Int := if refP s.p z = 0 then ownE (s.fs z.toNat) c else refP s.p z
def actD (s : DS) (z : Int) (c : Chg) : DS := if errP s z c = 0 then ⟨upd s.fs z.toNat (moreF (s.fs z.toNat) c), stepP s.p, s.ops + 1⟩ else s
def synF (x : FileS) : FileS := ⟨x.seen, x.seen, []⟩
def synD (s : DS) (z : Int) : DS := if refP s.p z = 0 then ⟨upd s.fs z.toNat (synF (s.fs z.toNat)), stepP s.p, s.ops + 1⟩ else s
theorem ref_ok {p z : Int} (h : refP p z = 0) : p ≠ 0 ∧ ∃ f : Nat, z = (f : Int) ∧ f < 32 := by
 unfold refP at h
 split at h
 ·omega
 ·split at h
  ·exact ⟨by assumption, z.toNat, by omega, by omega⟩
  ·omega
section
variable {lo : Nat → Prop} {n d db : Nat} {h : AHeap} {D : List AV} {fs : Nat → FileS} {vs : Nat → Nat → AV} {p : Int} {ops B f : Nat} {s : DS}
theorem DiskAt.mono {B' : Nat} (K : DiskAt lo h db D fs vs p ops B) (hB : B ≤ B') : DiskAt lo h db D fs vs p ops B' :=
 ⟨K.row, K.hdb, K.hlo, K.len, K.cells, K.cp, K.co, K.mem, K.own, K.low, fun f hf => by obtain ⟨o1, o2, o3, o4⟩ := K.ok f hf; exact ⟨o1, o2, by omega, by omega⟩, K.ex, K.hp, by have := K.ho; omega, K.nw⟩
theorem At.mono {B' : Nat} (K : At lo h db s B) (hB : B ≤ B') : At lo h db s B' := by
 obtain ⟨D, vs, K⟩ := K
 exact ⟨D, vs, K.mono hB⟩
theorem At.ex (K : At lo h db s B) : h.ex = [] := by
 obtain ⟨D, vs, K⟩ := K
 exact K.ex
theorem At.tch {S : List Nat} {h' : AHeap} (K : At lo h db s B) (t : Tch S h h') (hS : ∀ b ∈ S, ¬ lo b ∨ h.next ≤ b) : At lo h' db s B := by
 obtain ⟨D, vs, K⟩ := K
 exact ⟨D, vs, K.tch t hS⟩
theorem At.part {S : List Nat} {h' : AHeap} (K : At lo h db s B) (t : Tch S h h') (hS : ∀ b ∈ S, ¬ lo b ∨ h.next ≤ b) : At (fun b => lo b ∧ (b < h.next ∨ h'.next ≤ b)) h' db s B := by
 obtain ⟨D, vs, K⟩ := K
 have K' := K.tch t hS
 exact ⟨D, vs, K'.row, K'.hdb, ⟨K'.hlo, .inl K.hdb⟩, K'.len, K'.cells, K'.cp, K'.co, K'.mem, K'.own, fun f k hf hk b hb => ⟨K'.low f k hf hk b hb, .inl (K.lt hf hk b hb)⟩, K'.ok, K'.ex, K'.hp, K'.ho, fun b hb => ⟨K'.nw b hb, .inr hb⟩⟩
def Does (lo : Nat → Prop) (db : Nat) (h : AHeap) (x : R) (e : Int) (s' : DS) (B' : Nat) : Prop := ∃ h' S, x = some (.ret (.int .i64 e), h') ∧ At lo h' db s' B' ∧ Tch S h h' ∧ ∀ b ∈ S, lo b
theorem Does.of {x : R} {e : Int} {s' : DS} {B' : Nat} (k : Wp x fun r h' => r = .ret (.int .i64 e) ∧ ∃ S, At lo h' db s' B' ∧ Tch S h h' ∧ ∀ b ∈ S, lo b) : Does lo db h x e s' B' := by
 obtain ⟨_, h', e, rfl, S, k⟩ := k
 exact ⟨h', S, e, k⟩
theorem err_ok {f : Nat} {c : Chg} (h0 : refP s.p (f : Int) = 0) : errP s (f : Int) c = ownE (s.fs f) c := by
 unfold errP
 rw [if_pos h0, Int.toNat_natCast]
theorem act_ok {f : Nat} {c : Chg} (h0 : refP s.p (f : Int) = 0) (h1 : ownE (s.fs f) c = 0) : actD s (f : Int) c = ⟨upd s.fs f (moreF (s.fs f) c), stepP s.p, s.ops + 1⟩ := by
 unfold actD
 rw [err_ok h0, if_pos h1, Int.toNat_natCast]
theorem act_no {z : Int} {c : Chg} (h1 : errP s z c ≠ 0) : actD s z c = s := by
 unfold actD
 rw [if_neg h1]
theorem err_ref {z : Int} {c : Chg} (h0 : refP s.p z ≠ 0) : errP s z c = refP s.p z := by
 unfold errP
 rw [if_neg h0]
theorem append_ok {u : Bytes} {z : Int} (hn : 1000000 < n) (K : At lo h db s B) (hb : B + u.length < 9000000) : Does lo db h (world n (d + 3) 22 [.ptr db 0, .int .i64 z, strA u] h) (errP s z ⟨0, u, 0⟩) (actD s z ⟨0, u, 0⟩) (B + u.length + 2) := by
 apply Does.of
 have KA := K
 obtain ⟨D, vs, K⟩ := K
 rw [w_disk_Disk_Append]
 unfold disk_Disk_Append
 refine Wp.callN (refuses_w K z) (Wp.obind (avInt_int _ _) (Wp.lett ?_))
 by_cases h0 : refP s.p z = 0
 ·obtain ⟨hp, f, rfl, hf⟩ := ref_ok h0
  have C := K.cells f hf
  have Mf := K.mem f hf
  obtain ⟨o1, o2, o3, o4⟩ := K.ok f hf
  have hsl := doL_len (s.fs f).loose (s.fs f).sure
  rw [← o1] at hsl
  refine Wp.iff (bne_f h0) ?_
  refine Wp.obind (nilC_ptr _ _) (Wp.obind (fldP_ptr _ _ _) (Wp.obind (idxF hf) (Wp.obind (fldP_ptr _ _ _) (Wp.obind (fldP_ptr _ _ _) (Wp.obind (RowH.cell' K.row C.c3) (Wp.obind Mf.seen.len ?_))))))
  refine Wp.lettw (by omega) (by omega) ?_
  have hlu := lenS_nat u
  have hown : ownE (s.fs f) ⟨0, u, 0⟩ = if (1048576 : Int) - ((s.fs f).seen.u.length : Int) < (u.length : Int) then 8 else 0 := by
   unfold ownE
   rw [if_pos rfl]
  refine Wp.lett ?_
  by_cases h1 : (1048576 : Int) - ((s.fs f).seen.u.length : Int) < (u.length : Int)
  ·rw [if_pos h1] at hown
   have he := (err_ok h0).trans hown
   rw [act_no (by omega), he]
   refine Wp.ift (by rw [decide_eq_true_eq]; omega) ?_
   exact Wp.ret ⟨rfl, [], KA.mono (by omega), Tch.refl _ _, fun _ h => nomatch h⟩
  ·rw [if_neg h1] at hown
   rw [(err_ok h0).trans hown, act_ok h0 hown]
   refine Wp.iff (by rw [decide_eq_false_iff_not]; omega) ?_
   obtain ⟨h', D', vs', S, e, K', t, hS⟩ := change_ok (n := n) (d := d) hn K hf (c := ⟨0, u, 0⟩) (.inl rfl) hb
   refine Wp.callN e (Wp.obind (avInt_int _ _) ?_)
   exact Wp.ret ⟨rfl, S, ⟨D', vs', K'⟩, t, hS⟩
 ·rw [act_no (by rw [err_ref h0]; exact h0), err_ref h0]
  refine Wp.ift (bne_t h0) ?_
  exact Wp.ret ⟨rfl, [], KA.mono (by omega), Tch.refl _ _, fun _ h => nomatch h⟩
theorem cut_ok {z m : Int} (hn : 1000000 < n) (K : At lo h db s B) (hb : B < 9000000) : Does lo db h (world n (d + 3) 55 [.ptr db 0, .int .i64 z, .int .i64 m] h) (errP s z ⟨1, [], m⟩) (actD s z ⟨1, [], m⟩) (B + 2) := by
 apply Does.of
 have KA := K
 obtain ⟨D, vs, K⟩ := K
 rw [w_disk_Disk_Cut]
 unfold disk_Disk_Cut
 refine Wp.callN (refuses_w K z) (Wp.obind (avInt_int _ _) (Wp.lett ?_))
 by_cases h0 : refP s.p z = 0
 ·obtain ⟨hp, f, rfl, hf⟩ := ref_ok h0
  have C := K.cells f hf
  have Mf := K.mem f hf
  have hlen := Mf.seen.len
  refine Wp.iff (bne_f h0) ?_
  refine Wp.obind (nilC_ptr _ _) (Wp.obind (fldP_ptr _ _ _) (Wp.obind (idxF hf) (Wp.obind (fldP_ptr _ _ _) (Wp.obind (nilC_ptr _ _) (Wp.obind (fldP_ptr _ _ _) (Wp.obind (RowH.cell' K.row C.c2) (Wp.obind (avBool_bool _) (Wp.lett ?_))))))))
  have hown : ownE (s.fs f) ⟨1, [], m⟩ = if (s.fs f).seen.th = false then 4 else if m < 0 ∨ ((s.fs f).seen.u.length : Int) < m then 5 else 0 := by
   unfold ownE
   rw [if_neg (show ¬ (1 : Nat) = 0 by omega)]
   simp only [true_and]
  cases hth : (s.fs f).seen.th with
  | false =>
   rw [hth, if_pos rfl] at hown
   have he := (err_ok h0).trans hown
   rw [act_no (by omega), he]
   refine Wp.ift rfl ?_
   exact Wp.ret ⟨rfl, [], KA.mono (by omega), Tch.refl _ _, fun _ h => nomatch h⟩
  | true =>
   rw [hth, if_neg (by decide)] at hown
   refine Wp.iff rfl (Wp.lett (Wp.lettG fun j ej => ?_))
   have bad : (m < 0 ∨ ((s.fs f).seen.u.length : Int) < m) → ∀ H, H = h → Wp (j true H) fun r h' => r = .ret (.int .i64 (errP s (f : Int) ⟨1, [], m⟩)) ∧ ∃ S, At lo h' db (actD s (f : Int) ⟨1, [], m⟩) (B + 2) ∧ Tch S h h' ∧ ∀ b ∈ S, lo b := by
    intro h1 H hH
    rw [if_pos h1] at hown
    have he := (err_ok h0).trans hown
    rw [act_no (by omega), he, ej, hH]
    refine Wp.ift rfl ?_
    exact Wp.ret ⟨rfl, [], KA.mono (by omega), Tch.refl _ _, fun _ h => nomatch h⟩
   by_cases h1 : m < 0
   ·refine Wp.ift (by rw [decide_eq_true_eq]; exact h1) ?_
    exact bad (.inl h1) _ rfl
   ·refine Wp.iff (by rw [decide_eq_false_iff_not]; exact h1) ?_
    have step2 : ∀ k : AV → R, (Wp (k (vs f 1)) fun r h' => r = .ret (.int .i64 (errP s (f : Int) ⟨1, [], m⟩)) ∧ ∃ S, At lo h' db (actD s (f : Int) ⟨1, [], m⟩) (B + 2) ∧ Tch S h h' ∧ ∀ b ∈ S, lo b) → Wp (Abs.obind (ldCell h (.ptr db (5 * f + 2 + 1))) k) fun r h' => r = .ret (.int .i64 (errP s (f : Int) ⟨1, [], m⟩)) ∧ ∃ S, At lo h' db (actD s (f : Int) ⟨1, [], m⟩) (B + 2) ∧ Tch S h h' ∧ ∀ b ∈ S, lo b := fun k hk => Wp.obind (RowH.cell' K.row C.c3) hk
    refine Wp.obind (nilC_ptr _ _) (Wp.obind (fldP_ptr _ _ _) (step2 _ (Wp.obind hlen (Wp.lett ?_))))
    by_cases h2 : ((s.fs f).seen.u.length : Int) < m
    ·rw [decide_eq_true (show m > ((s.fs f).seen.u.length : Int) from h2)]
     exact bad (.inr h2) _ rfl
    ·rw [decide_eq_false (show ¬ m > ((s.fs f).seen.u.length : Int) from h2), ej]
     rw [if_neg (by omega)] at hown
     rw [(err_ok h0).trans hown, act_ok h0 hown]
     refine Wp.iff rfl ?_
     obtain ⟨h', D', vs', S, e, K', t, hS⟩ := change_ok (n := n) (d := d) hn K hf (c := ⟨1, [], m⟩) (.inr (.inl ⟨rfl, (show (0 : Int) ≤ m by omega), (show m ≤ ((s.fs f).seen.u.length : Int) by omega)⟩)) (by show B + 0 < _; omega)
     refine Wp.callN e (Wp.obind (avInt_int _ _) ?_)
     exact Wp.ret ⟨rfl, S, ⟨D', vs', K'⟩, t, hS⟩
 ·rw [act_no (by rw [err_ref h0]; exact h0), err_ref h0]
  refine Wp.ift (bne_t h0) ?_
  exact Wp.ret ⟨rfl, [], KA.mono (by omega), Tch.refl _ _, fun _ h => nomatch h⟩
theorem remove_ok {z : Int} (hn : 1000000 < n) (K : At lo h db s B) (hb : B < 9000000) : Does lo db h (world n (d + 3) 36 [.ptr db 0, .int .i64 z] h) (errP s z ⟨2, [], 0⟩) (actD s z ⟨2, [], 0⟩) (B + 2) := by
 apply Does.of
 have KA := K
 obtain ⟨D, vs, K⟩ := K
 rw [w_disk_Disk_Remove]
 unfold disk_Disk_Remove
 refine Wp.callN (refuses_w K z) (Wp.obind (avInt_int _ _) (Wp.lett ?_))
 by_cases h0 : refP s.p z = 0
 ·obtain ⟨hp, f, rfl, hf⟩ := ref_ok h0
  have C := K.cells f hf
  have hown : ownE (s.fs f) ⟨2, [], 0⟩ = if (s.fs f).seen.th = false then 4 else 0 := by
   unfold ownE
   rw [if_neg (show ¬ (2 : Nat) = 0 by omega)]
   split
   ·rfl
   ·rw [if_neg (fun h => absurd h.1 (by decide))]
  refine Wp.iff (bne_f h0) ?_
  refine Wp.obind (nilC_ptr _ _) (Wp.obind (fldP_ptr _ _ _) (Wp.obind (idxF hf) (Wp.obind (fldP_ptr _ _ _) (Wp.obind (fldP_ptr _ _ _) (Wp.obind (RowH.cell' K.row C.c2) (Wp.obind (avBool_bool _) (Wp.lett ?_)))))))
  cases hth : (s.fs f).seen.th with
  | false =>
   rw [hth, if_pos rfl] at hown
   have he := (err_ok h0).trans hown
   rw [act_no (by omega), he]
   refine Wp.ift rfl ?_
   exact Wp.ret ⟨rfl, [], KA.mono (by omega), Tch.refl _ _, fun _ h => nomatch h⟩
  | true =>
   rw [hth, if_neg (by decide)] at hown
   rw [(err_ok h0).trans hown, act_ok h0 hown]
   refine Wp.iff rfl ?_
   obtain ⟨h', D', vs', S, e, K', t, hS⟩ := change_ok (n := n) (d := d) hn K hf (c := ⟨2, [], 0⟩) (.inr (.inr rfl)) (by show B + 0 < _; omega)
   refine Wp.callN e (Wp.obind (avInt_int _ _) ?_)
   exact Wp.ret ⟨rfl, S, ⟨D', vs', K'⟩, t, hS⟩
 ·rw [act_no (by rw [err_ref h0]; exact h0), err_ref h0]
  refine Wp.ift (bne_t h0) ?_
  exact Wp.ret ⟨rfl, [], KA.mono (by omega), Tch.refl _ _, fun _ h => nomatch h⟩
end
theorem flat_rep {r t : List AV} {k : Nat} (hr : r.length = k) : ∀ (m f j : Nat), f < m → j < k → ((List.replicate m r).flatten ++ t)[k * f + j]? = r[j]?
 | 0, _, _, h, _ => absurd h (Nat.not_lt_zero _)
 | m + 1, 0, j, _, hj => by
  rw [List.replicate_succ, List.flatten_cons, List.append_assoc, Nat.mul_zero, Nat.zero_add, List.getElem?_append_left (by omega)]
 | m + 1, f + 1, j, h, hj => by
  rw [List.replicate_succ, List.flatten_cons, List.append_assoc, List.getElem?_append_right (by rw [Nat.mul_succ]; omega), hr, show k * (f + 1) + j - k = k * f + j by rw [Nat.mul_succ]; omega]
  exact flat_rep hr m f j (by omega) hj
section
variable {lo : Nat → Prop} {n d db : Nat} {h : AHeap} {D : List AV} {fs : Nat → FileS} {vs : Nat → Nat → AV} {p : Int} {ops B f : Nat} {s : DS}
theorem DiskAt.setP {p' : Int} {h' : AHeap} (K : DiskAt lo h db D fs vs p ops B) (hp : -1 ≤ p' ∧ p' < 9223372036854775808) (kr : RowH h' db TDisk (D.set 160 (.int .i64 p'))) (t : Tch [db] h h') : DiskAt lo h' db (D.set 160 (.int .i64 p')) fs vs p' ops B := by
 have hl := K.len
 refine ⟨kr, Nat.lt_of_lt_of_le K.hdb t.1, K.hlo, by rw [List.length_set]; exact hl, fun f hf => ?_, by rw [List.getElem?_set_self (by omega)], by rw [List.getElem?_set_ne (by omega)]; exact K.co, fun f hf => (K.mem f hf).tch t fun k hk b hb hm => K.nd hf hk (List.mem_singleton.1 hm ▸ hb), K.own, K.low, K.ok, by rw [t.2.1, K.ex], hp, K.ho, fun b hb => K.nw b (Nat.le_trans t.1 hb)⟩
 have hk := K.cells f hf
 have key : ∀ j, j < 5 → (D.set 160 (.int .i64 p'))[5 * f + j]? = D[5 * f + j]? := fun j hj => by rw [List.getElem?_set_ne (by omega)]
 exact ⟨(key 0 (by decide)).trans hk.c0, (key 1 (by decide)).trans hk.c1, (key 2 (by decide)).trans hk.c2, (key 3 (by decide)).trans hk.c3, (key 4 (by decide)).trans hk.c4⟩
theorem power_ok {m : Int} (hm : m < 9223372036854775808) (K : At lo h db s B) : Does lo db h (world n (d + 1) 14 [.ptr db 0, .int .i64 m] h) 0 ⟨s.fs, if -1 > m then -1 else m, s.ops⟩ B := by
 apply Does.of
 obtain ⟨D, vs, K⟩ := K
 rw [w_disk_Disk_Power]
 unfold disk_Disk_Power
 refine Wp.outK (eqDisk db 0 h) (Wp.obind (avBool_bool _) (Wp.iff rfl (Wp.lett ?_)))
 refine Wp.obind (nilC_ptr _ _) (Wp.obind (fldP_ptr _ _ _) ?_)
 have hl := K.len
 refine Wp.st1 K.row (show 0 + 160 < D.length by omega) rfl fun h2 k2 t2 n2 => ?_
 refine Wp.ret ⟨rfl, [db], ⟨_, vs, K.setP (by show -1 ≤ (if -1 > m then (-1 : Int) else m) ∧ (if -1 > m then (-1 : Int) else m) < 9223372036854775808; split <;> omega) ?_ t2⟩, t2, fun b hb => by rw [List.mem_singleton.1 hb]; exact K.hlo⟩
 rw [Nat.zero_add] at k2
 exact k2
abbrev emptyF : FileS := ⟨⟨false, []⟩, ⟨false, []⟩, []⟩
abbrev newS : DS := ⟨fun _ => emptyF, -1, 0⟩
theorem new_ok (hx : h.ex = []) : ∃ h', world n (d + 1) 9 [] h = some (.ret (.ptr h.next 0), h') ∧ At (fun b => h.next ≤ b) h' h.next newS 0 ∧ Tch [] h h' := by
 suffices hK : Wp (disk_New (world n d) n h) fun r h' => r = .ret (.ptr h.next 0) ∧ At (fun b => h.next ≤ b) h' h.next newS 0 ∧ Tch [] h h' by
  obtain ⟨r, h', e, rfl, k⟩ := hK
  refine ⟨h', ?_, k⟩
  rw [w_disk_New, e]
  refine gcR_some ?_
  show Nat.blt h.next h.next = false
  cases e : Nat.blt h.next h.next with
  | false => rfl
  | true =>
   have := blt_lt' e
   omega
 unfold disk_New
 refine Wp.outK (box_agg (by kernel_rfl)) ?_
 refine Wp.ret ⟨rfl, ⟨(List.replicate 32 [.bool false, .nsl, .bool false, .nsl, .nsl]).flatten ++ [.int .i64 (-1), .int .i64 0], fun _ _ => .nsl, RowH.new _ _ _, Nat.lt_succ_self _, Nat.le_refl _, by kernel_rfl, fun f hf => ?_, by kernel_rfl, by kernel_rfl, fun f hf => ⟨.inl ⟨rfl, rfl⟩, .inl ⟨rfl, rfl⟩, .inl ⟨rfl, rfl⟩⟩, ⟨fun _ => 0, rfl, fun _ _ _ _ _ hb => (nomatch hb)⟩, (fun _ _ _ _ _ hb => (nomatch hb)), fun f hf => ⟨rfl, trivial, Nat.le_refl _, Nat.le_refl _⟩, hx, by decide, Nat.le_refl _, fun b hb => Nat.le_trans (Nat.le_succ _) hb⟩, Tch.newH _ _ _ _⟩
 exact ⟨flat_rep rfl 32 f 0 hf (by decide), flat_rep rfl 32 f 1 hf (by decide), flat_rep rfl 32 f 2 hf (by decide), flat_rep rfl 32 f 3 hf (by decide), flat_rep rfl 32 f 4 hf (by decide)⟩
theorem synF_ok {x : FileS} (k : FileOk x B) : FileOk (synF x) B := by
 obtain ⟨k1, k2, k3, k4⟩ := k
 have := doL_len x.loose x.sure
 rw [← k1] at this
 exact ⟨rfl, trivial, by show x.seen.u.length + 0 ≤ B; omega, Nat.zero_le _⟩
theorem sync_ok {z : Int} (hn : 1000000 < n) (K : At lo h db s B) (hb : B < 900000) : Does lo db h (world n (d + 3) 39 [.ptr db 0, .int .i64 z] h) (refP s.p z) (synD s z) (B + 1) := by
 apply Does.of
 have KA := K
 obtain ⟨D, vs, K⟩ := K
 rw [w_disk_Disk_Sync]
 unfold disk_Disk_Sync
 refine Wp.callN (refuses_w K z) (Wp.obind (avInt_int _ _) (Wp.lett ?_))
 by_cases h0 : refP s.p z = 0
 ·obtain ⟨hp, f, rfl, hf⟩ := ref_ok h0
  have C := K.cells f hf
  have Mf := K.mem f hf
  obtain ⟨o1, o2, o3, o4⟩ := K.ok f hf
  have hlen := K.len
  have hdb := K.hdb
  have es : synD s (f : Int) = ⟨upd s.fs f (synF (s.fs f)), stepP s.p, s.ops + 1⟩ := by
   unfold synD
   rw [if_pos h0, Int.toNat_natCast]
  rw [es, h0]
  refine Wp.iff rfl ?_
  refine Wp.obind (nilC_ptr _ _) (Wp.obind (fldP_ptr _ _ _) (Wp.obind (idxF hf) (Wp.obind (nilC_ptr _ _) (Wp.obind (fldP_ptr _ _ _) (Wp.obind (nilC_ptr _ _) (Wp.obind (fldP_ptr _ _ _) (Wp.obind (RowH.cell' K.row C.c4) ?_)))))))
  have dis : ∀ b ∈ blkV (vs f 2), b ∉ db :: blkV (vs f 0) := fun b hb hm => by
   rcases List.mem_cons.1 hm with rfl | hm
   ·exact K.nd hf (by decide) hb
   ·exact K.ne hf (by decide) hf (by decide) (fun h => absurd h.2 (by decide)) b hb hm
  have dis1 : ∀ b ∈ blkV (vs f 1), b ∉ db :: blkV (vs f 0) := fun b hb hm => by
   rcases List.mem_cons.1 hm with rfl | hm
   ·exact K.nd hf (by decide) hb
   ·exact K.ne hf (by decide) hf (by decide) (fun h => absurd h.2 (by decide)) b hb hm
  obtain ⟨h4, v4, e4, K4⟩ := do_ok (n := n) (d := d + 1) (T := TDisk) (o := 5 * f + 0) (x := (s.fs f).sure) hn hdb K.row C.c0 C.c1 Mf.sure (K.nd hf (by decide)) K.ex (Mf.loose.rd dis) (by omega) o2 (by omega)
  refine Wp.callN e4 (Wp.obind (nilC_ptr _ _) (Wp.obind (fldP_ptr _ _ _) ?_))
  rw [← o1] at K4
  have hdb4 : db < h4.next := Nat.lt_of_lt_of_le hdb K4.tch.1
  show Wp (Abs.obind (stRow h4 1 [AV.nsl] (.ptr db (5 * f + 4))) _) _
  refine Wp.st1 K4.row (show 5 * f + 4 < _ by rw [List.length_set, List.length_set]; omega) rfl fun h7 k7 t7 n7 => ?_
  have T : Tch (db :: blkV (vs f 0)) h h7 := K4.tch.trans' t7 fun b hb => .inl (by rw [List.mem_singleton.1 hb]; exact List.mem_cons_self)
  have KU := K.upd (B' := B) (x := synF (s.fs f)) (w := fun k => if k = 0 then v4 else if k = 1 then vs f 1 else .nsl) hf T (fun b hb => ?_) k7 (by rw [List.length_set, List.length_set, List.length_set]; exact hlen) ⟨?_, ?_, ?_, ?_, ?_⟩ (fun i hi => ?_) (fun k hk b hb => ?_) (fun k l hk hl hne b hb hb' => ?_) ⟨?_, ?_, ?_⟩ (synF_ok (K.ok f hf)) (Nat.le_refl _)
  ·obtain ⟨h8, D8, e8, K8, t8⟩ := step_ok (n := n) (d := d + 1) KU (by omega)
   refine Wp.callN e8 ?_
   refine Wp.ret ⟨rfl, db :: blkV (vs f 0), ⟨D8, _, K8⟩, T.trans' t8 fun b hb => .inl (by rw [List.mem_singleton.1 hb]; exact List.mem_cons_self), fun b hb => ?_⟩
   rcases List.mem_cons.1 hb with hb | hb
   ·rw [hb]
    exact K.hlo
   ·exact K.low f 0 hf (by decide) b hb
  ·rcases List.mem_cons.1 hb with hb | hb
   ·exact .inl hb
   ·exact .inr ⟨0, by decide, hb⟩
  ·show (((D.set (5 * f + 0) _).set (5 * f + 0 + 1) v4).set (5 * f + 4) AV.nsl)[5 * f + 0]? = _
   rw [List.getElem?_set_ne (by omega), List.getElem?_set_ne (by omega), List.getElem?_set_self (by omega)]
   rfl
  ·rw [List.getElem?_set_ne (by omega), List.getElem?_set_self (by rw [List.length_set]; omega)]
   rfl
  ·rw [List.getElem?_set_ne (by omega), List.getElem?_set_ne (by omega), List.getElem?_set_ne (by omega)]
   exact C.c2
  ·rw [List.getElem?_set_ne (by omega), List.getElem?_set_ne (by omega), List.getElem?_set_ne (by omega)]
   exact C.c3
  ·rw [List.getElem?_set_self (by rw [List.length_set, List.length_set]; omega)]
   rfl
  ·rw [List.getElem?_set_ne (by omega), List.getElem?_set_ne (by omega), List.getElem?_set_ne (by omega)]
  ·rcases k with _ | _ | k
   ·exact K4.sub b hb
   ·exact .inl hb
   ·exact nomatch hb
  ·have q01 : b ∈ blkV v4 → b ∈ blkV (vs f 1) → False := fun h0 h1 => by
    rcases K4.sub b h0 with h0 | h0
    ·exact dis1 b h1 (List.mem_cons_of_mem _ h0)
    ·have := K.lt hf (k := 1) (by decide) b h1
     omega
   rcases k with _ | _ | k <;> rcases l with _ | _ | l
   ·omega
   ·exact q01 hb hb'
   ·exact nomatch hb'
   ·exact q01 hb' hb
   ·omega
   ·exact nomatch hb'
   ·exact nomatch hb
   ·exact nomatch hb
   ·exact nomatch hb
  ·exact K4.buf.tch t7 fun b hb hm => K4.ndb (List.mem_singleton.1 hm ▸ hb)
  ·exact Mf.seen.tch T dis1
  ·exact .inl ⟨rfl, rfl⟩
 ·have es : synD s z = s := by
   unfold synD
   rw [if_neg h0]
  rw [es]
  refine Wp.ift (bne_t h0) ?_
  exact Wp.ret ⟨rfl, [], KA.mono (by omega), Tch.refl _ _, fun _ h => nomatch h⟩
end
structure StpR where
 k : Int
 f : Int
 n : Int
 s : Bytes
 v : AV
def StpOk (N : Nat) (h : AHeap) (x : StpR) : Prop := I64 x.k ∧ I64 x.f ∧ I64 x.n ∧ x.s.length ≤ reachBytes ∧ ∃ zs : List Int, Slc N h 1 x.v (zs.map fun z => [.int .i64 z]) ∧ (∀ z ∈ zs, I64 z) ∧ zs.length * 8 ≤ reachBytes
theorem StpOk.one {N : Nat} {h : AHeap} {x : StpR} (k : StpOk N h x) : x.v.one = true := by
 obtain ⟨_, _, _, _, zs, hs, _⟩ := k
 rcases hs.2 with ⟨_, e | e⟩ | ⟨b, _, _, e, _⟩ <;> rw [e] <;> rfl
section
variable {n d N : Nat} {h : AHeap} {a : AV} {xs : List StpR}
end
section
variable {h h' : AHeap} {v : AV} {u : Bytes} {l : List Chg}
theorem BufAt.conv (k : BufAt h v u) : opConv Try.prog h TBy 9 (some v) = some (.val (strA u), h) := by
 rcases k with ⟨rfl, rfl⟩ | ⟨c, rest, rfl, h2, h3⟩
 ·kernel_rfl
 ·refine conv_row (by kernel_rfl) (by kernel_rfl) ?_
  have hcl := bytesC_length u
  have := h2.part (o := 0) (n := (bytesC u).length) (by rw [List.length_append]; omega)
  rw [List.drop_zero, List.take_left' rfl, hcl] at this
  exact this
theorem eqBy_sl (b m : Nat) (h : AHeap) : opBin Try.prog h .eql TBy true (some (.sl b 0 m 1)) (some AV.nsl) = some (.val (.bool false), h) := by kernel_rfl
theorem eqBy_nil (h : AHeap) : opBin Try.prog h .eql TBy true (some .nsl) (some AV.nsl) = some (.val (.bool true), h) := by kernel_rfl
theorem bldBy0 (h : AHeap) : bldSl Try.prog h TBy 0 [] = outNewS h 5 [] 0 1 := by kernel_rfl
theorem Wp.mnews0 {h : AHeap} {e sz : Nat} {k : AV → AHeap → R} {Q : ARes → AHeap → Prop} {o : OutT} (e1 : o = outNewS h e [] 0 sz) (hex : memB e h.ex = false) (hk : Wp (k (.sl h.next 0 0 sz) (newH h e [])) Q) : Wp (Abs.outK o k) Q := by
 refine Wp.outK (v := .sl h.next 0 0 sz) (h1 := newH h e []) ?_ hk
 rw [e1]
 unfold outNewS
 rw [if_pos ⟨rfl, hex⟩]
 rfl
theorem clone_ok {n d : Nat} (k : BufAt h v u) (hx : h.ex = []) (hm : u.length ≤ 1000000000) : ∃ h' v', world n (d + 1) 77 [v] h = some (.ret v', h') ∧ BufAt h' v' u ∧ Tch [] h h' ∧ ∀ b ∈ blkV v', h.next ≤ b := by
 suffices hK : Wp (world n (d + 1) 77 [v] h) fun r h' => ∃ v', r = .ret v' ∧ BufAt h' v' u ∧ Tch [] h h' ∧ ∀ b ∈ blkV v', h.next ≤ b by
  obtain ⟨_, h', e, v', rfl, k⟩ := hK
  exact ⟨h', v', e, k⟩
 rw [w_slices_Clone___byte_byte_]
 unfold slices_Clone___byte_byte_
 have he : Abs.elemOf Try.prog TBy = some 5 := by kernel_rfl
 have hu : notInt Try.prog TBy = true := by kernel_rfl
 have hsz : Try.prog.cellsOf 5 = 1 := by kernel_rfl
 rcases k with ⟨rfl, rfl⟩ | ⟨c, rest, rfl, h2, h3⟩
 ·refine Wp.outK (eqBy_nil h) (Wp.obind (avBool_bool _) (Wp.ift rfl ?_))
  exact Wp.ret ⟨_, rfl, .inl ⟨rfl, rfl⟩, Tch.refl _ _, fun _ h => nomatch h⟩
 ·refine Wp.outK (eqBy_sl c u.length h) (Wp.obind (avBool_bool _) (Wp.iff rfl ?_))
  refine Wp.mnews0 (bldBy0 h) (by rw [hx]; rfl) ?_
  have hex : memB 5 (newH h 5 []).ex = false := by rw [ex_newH, hx]; rfl
  have kn := RowH.new h 5 []
  have hcl := bytesC_length u
  have k2 : RowH (newH h 5 []) c 5 (bytesC u ++ rest) := h2.tch (Tch.newH [] h _ _) h3 (fun h => nomatch h)
  have hfit := bytesFit_of (P := Try.prog) (e := 5) (B := 1) (k := 0 + u.length) fitBy (by omega) (by omega)
  have hpart : rowGet (newH h 5 []) c 0 (bytesC u).length = some (bytesC u) := by
   have := k2.part (o := 0) (n := (bytesC u).length) (by rw [List.length_append]; omega)
   rw [List.drop_zero, List.take_left' rfl] at this
   exact this
  have hfirst : ∀ m, m = u.length → firstA (newH h 5 []) 1 m (.sl c 0 u.length 1) = some (bytesC u) := by
   intro m hm
   rw [firstA_of_row (by omega), hm, Nat.mul_one, ← hcl]
   exact hpart
  by_cases h0 : u = []
  ·subst h0
   refine Wp.outK (append_zero (b := h.next) (o := 0) (m := 0) (n := 0) he hu hsz rfl rfl (hfirst 0 rfl) hfit hex) ?_
   exact Wp.ret ⟨_, rfl, .inr ⟨h.next, [], rfl, kn, Nat.lt_succ_self _⟩, Tch.newH _ _ _ _, fun b hb => by rw [List.mem_singleton.1 hb]; exact Nat.le_refl _⟩
  ·obtain ⟨m, hm2⟩ : ∃ m, u.length = m + 1 := by
    cases u with
    | nil => exact absurd rfl h0
    | cons a l => exact ⟨l.length, rfl⟩
   have hlen : lenA (.sl c 0 u.length 1) = some (m + 1) := by rw [hm2]; rfl
   have a1 := append_more (P := Try.prog) (h := newH h 5 []) (t := TBy) (u := TBy) (b := h.next) (o := 0) (m := 0) (n := m) (x := .sl c 0 u.length 1) (cs := []) he hu hsz hlen (hfirst _ hm2.symm) (by rw [← hm2]; exact hfit) (bytesC_one u) hex (by
    have := kn.part (o := 0) (n := 0) (Nat.le_refl _)
    exact this) kn.type
   refine Wp.outK a1 ?_
   refine Wp.ret ⟨_, rfl, .inr ⟨h.next + 1, [], by rw [hm2, Nat.zero_add]; rfl, ?_, Nat.lt_succ_self _⟩, ((Tch.newH [] h _ _).trans' (Tch.put (S := [h.next]) (.inl (List.mem_singleton.2 rfl)) .dead) fun b hb => .inr (by rw [List.mem_singleton.1 hb]; exact Nat.le_refl _)).trans (Tch.newH _ _ _ _), fun b hb => ?_⟩
   ·rw [List.append_nil]
    exact RowH.new ((newH h 5 []).put h.next .dead) _ _
   ·have hb2 : b = h.next + 1 := List.mem_singleton.1 hb
    omega
theorem copy_ok {n d b T o : Nat} {D : List AV} {th : Bool} (kr : RowH h b T D) (hb : b < h.next) (h0 : D[o]? = some (.bool th)) (h1 : D[o + 1]? = some v) (k : BufAt h v u) (hx : h.ex = []) (hm : u.length ≤ 1000000000) : ∃ h' v', world n (d + 2) 63 [.ptr b o] h = some (.ret (.agg [.bool th, v']), h') ∧ BufAt h' v' u ∧ Tch [] h h' ∧ ∀ b ∈ blkV v', h.next ≤ b := by
 suffices hK : Wp (world n (d + 2) 63 [.ptr b o] h) fun r h' => ∃ v', r = .ret (.agg [.bool th, v']) ∧ BufAt h' v' u ∧ Tch [] h h' ∧ ∀ b ∈ blkV v', h.next ≤ b by
  obtain ⟨_, h', e, v', rfl, k⟩ := hK
  exact ⟨h', v', e, k⟩
 rw [w_disk_content_copy]
 unfold disk_content_copy
 refine Wp.mnew (Mem.nil [] h) fun h2 M2 => ?_
 have t2 := M2.tch
 have hn2 := t2.1
 have kr2 := kr.tch t2 hb (fun h => nomatch h)
 have k2 := k.tch t2 (fun _ _ h => nomatch h)
 refine Wp.obind (nilC_ptr _ _) (Wp.obind (fldP_ptr _ _ _) (Wp.obind (RowH.cell' kr2 h0) (Wp.obind (avBool_bool _) (Wp.obind (nilC_ptr _ _) (Wp.obind (fldP_ptr _ _ _) (Wp.obind (RowH.cell' kr2 h1) ?_))))))
 obtain ⟨h3, v', e3, k3, t3, s3⟩ := clone_ok (n := n) (d := d) k2 (by rw [t2.2.1, hx]) hm
 have hn3 := t3.1
 refine Wp.callN e3 ?_
 have kr3 := kr2.tch t3 (Nat.lt_of_lt_of_le hb hn2) (fun h => nomatch h)
 refine Wp.chk (and_t rfl (and_t (reLoad_c (by kernel_rfl) (RowH.cell' kr3 h0)) rfl)) ?_
 have hbld : bldS Try.prog 76 [(0, .bool th), (1, v')] = some [.bool th, v'] := by
  rcases k3 with ⟨rfl, rfl⟩ | ⟨c, rest, rfl, _⟩ <;> kernel_rfl
 refine Wp.obind hbld ?_
 have hh2 := M2.at0.2.1
 have kb3 := M2.at0.1.tch t3 hh2 (fun h => nomatch h)
 rw [newP_eq]
 refine Wp.stAll kb3 rfl rfl (by rw [show [AV.bool th, v'].all AV.one = (true && (v'.one && true)) from rfl, k3.one.1]; rfl) fun h4 k4 t4 n4 => ?_
 refine Wp.obind (RowH.ldAll k4 rfl) ?_
 refine Wp.ret ⟨v', rfl, k3.tch t4 (fun b hb hm => ?_), (t2.trans t3).trans' t4 (fun b hb => .inr (by rw [List.mem_singleton.1 hb]; exact Nat.le_refl _)), fun b hb => Nat.le_trans hn2 (s3 b hb)⟩
 have h1 := s3 b hb
 have h2 := List.mem_singleton.1 hm
 omega
end
section
variable {lo : Nat → Prop} {n d db : Nat} {h : AHeap} {B : Nat} {s : DS}
def readE (s : DS) (z : Int) : Int := if refP s.p z = 0 then (if (s.fs z.toNat).seen.th = true then 0 else 4) else refP s.p z
def readS (s : DS) (z : Int) : Bytes := if refP s.p z = 0 then (if (s.fs z.toNat).seen.th = true then (s.fs z.toNat).seen.u else []) else []
theorem read_a {z : Int} (K : At lo h db s B) : world n (d + 3) 52 [.ptr db 0, .int .i64 z] h = some (.ret (.tup [strA (readS s z), .int .i64 (readE s z)]), h) := by
 apply Wp.eq
 obtain ⟨D, vs, K⟩ := K
 rw [w_disk_Disk_Read]
 unfold disk_Disk_Read
 refine Wp.callN (refuses_w K z) (Wp.obind (avInt_int _ _) (Wp.lett ?_))
 unfold readE readS
 by_cases h0 : refP s.p z = 0
 ·obtain ⟨hp, f, rfl, hf⟩ := ref_ok h0
  have C := K.cells f hf
  have Mf := K.mem f hf
  refine Wp.iff (bne_f h0) ?_
  rw [if_pos h0, if_pos h0, Int.toNat_natCast]
  refine Wp.obind (nilC_ptr _ _) (Wp.obind (fldP_ptr _ _ _) (Wp.obind (idxF hf) (Wp.obind (fldP_ptr _ _ _) (Wp.obind (nilC_ptr _ _) (Wp.obind (fldP_ptr _ _ _) (Wp.obind (RowH.cell' K.row C.c2) (Wp.obind (avBool_bool _) (Wp.lett ?_))))))))
  cases hth : (s.fs f).seen.th with
  | false =>
   refine Wp.ift rfl ?_
   exact Wp.ret ⟨rfl, rfl⟩
  | true =>
   refine Wp.iff rfl (Wp.obind (nilC_ptr _ _) (Wp.obind (fldP_ptr _ _ _) ?_))
   have go : ∀ k : AV → R, (Wp (k (vs f 1)) fun r' h' => r' = ARes.ret (AV.tup [strA (if true = true then (s.fs f).seen.u else []), AV.int IntKind.i64 (if true = true then 0 else 4)]) ∧ h' = h) → Wp (Abs.obind (ldCell h (.ptr db (5 * f + 2 + 1))) k) fun r' h' => r' = ARes.ret (AV.tup [strA (if true = true then (s.fs f).seen.u else []), AV.int IntKind.i64 (if true = true then 0 else 4)]) ∧ h' = h := fun k hk => Wp.obind (RowH.cell' K.row C.c3) hk
   refine go _ (Wp.outK Mf.seen.conv (Wp.obind (avStr_str _) ?_))
   exact Wp.ret ⟨rfl, rfl⟩
 ·refine Wp.ift (bne_t h0) ?_
  rw [if_neg h0, if_neg h0]
  exact Wp.ret ⟨rfl, rfl⟩
def isF (z : Int) : Prop := 0 ≤ z ∧ z < 32
instance (z : Int) : Decidable (isF z) := inferInstanceAs (Decidable (0 ≤ z ∧ z < 32))
end
theorem Legal_take : ∀ (l : List Chg) (x : Cont) (k : Nat), Legal x l → Legal x (l.take k)
 | _, _, 0, _ => trivial
 | [], _, _ + 1, _ => trivial
 | _ :: l, _, k + 1, h => ⟨h.1, Legal_take l _ k h.2⟩
theorem sumL_take : ∀ (l : List Chg) (k : Nat), sumL (l.take k) ≤ sumL l
 | _, 0 => Nat.zero_le _
 | [], _ + 1 => Nat.le_refl _
 | c :: l, k + 1 => by
  have := sumL_take l k
  show c.s.length + sumL (l.take k) ≤ c.s.length + sumL l
  omega
theorem sumL_at : ∀ (l : List Chg) (k : Nat) (hk : k < l.length), sumL (l.take k) + l[k].s.length ≤ sumL l
 | [], _, h => absurd h (Nat.not_lt_zero _)
 | c :: l, 0, _ => by
  show 0 + c.s.length ≤ c.s.length + sumL l
  omega
 | c :: l, k + 1, h => by
  have := sumL_at l k (Nat.lt_of_succ_lt_succ h)
  show c.s.length + sumL (l.take k) + (l[k]'(Nat.lt_of_succ_lt_succ h)).s.length ≤ c.s.length + sumL l
  omega
def keptN (x : FileS) (kept : Int) : Nat := min kept.toNat x.loose.length
def tornC (c : Chg) (torn : Int) : Chg := ⟨0, c.s.take (min torn ((c.s.length : Int) - 1)).toNat, c.n⟩
def tears (c : Chg) (torn : Int) : Prop := 0 < torn ∧ c.k = 0 ∧ c.s ≠ []
instance (c : Chg) (torn : Int) : Decidable (tears c torn) := inferInstanceAs (Decidable (0 < torn ∧ c.k = 0 ∧ c.s ≠ []))
def crashC (x : FileS) (kept torn : Int) : Cont :=
 match x.loose[keptN x kept]? with
 | some c => if tears c torn then do1 (doL x.sure (x.loose.take (keptN x kept))) (tornC c torn) else doL x.sure (x.loose.take (keptN x kept))
 | none => doL x.sure (x.loose.take (keptN x kept))
def crashF (x : FileS) (kept torn : Int) : FileS := ⟨crashC x kept torn, crashC x kept torn, []⟩
theorem crashC_len {x : FileS} {B : Nat} (kept torn : Int) (k : FileOk x B) : (crashC x kept torn).u.length ≤ B := by
 obtain ⟨k1, k2, k3, k4⟩ := k
 have h1 := doL_len (x.loose.take (keptN x kept)) x.sure
 have h2 := sumL_take x.loose (keptN x kept)
 unfold crashC
 split
 ·rename_i c hc
  obtain ⟨hk, rfl⟩ := List.getElem?_eq_some_iff.1 hc
  have h3 := sumL_at x.loose _ hk
  split
  ·have h4 := do1_len (doL x.sure (x.loose.take (keptN x kept))) (tornC x.loose[keptN x kept] torn)
   have h5 : (tornC x.loose[keptN x kept] torn).s.length ≤ x.loose[keptN x kept].s.length := by
    show (x.loose[keptN x kept].s.take _).length ≤ _
    rw [List.length_take]
    exact Nat.min_le_right _ _
   omega
  ·omega
 ·omega
theorem crashF_ok {x : FileS} {B : Nat} (kept torn : Int) (k : FileOk x B) : FileOk (crashF x kept torn) B :=
 ⟨rfl, trivial, crashC_len kept torn k, Nat.zero_le _⟩
section
variable {h H H' : AHeap} {db T o : Nat} {D : List AV} {v v1 v2 : AV} {x y : Cont} {l : List Chg}
theorem DoAt.trans (K : DoAt h H db T o D v v1 x) (K2 : DoAt H H' db T o ((D.set o (.bool x.th)).set (o + 1) v1) v1 v2 y) : DoAt h H' db T o D v v2 y := by
 have hn := K.tch.1
 refine ⟨?_, K2.buf, K2.ndb, fun b hb => ?_, K.tch.trans' K2.tch fun b hb => ?_, K2.ex⟩
 ·have := K2.row
  rw [set4] at this
  exact this
 ·rcases K2.sub b hb with hb | hb
  ·exact K.sub b hb
  ·omega
 ·rcases List.mem_cons.1 hb with rfl | hb
  ·exact .inl List.mem_cons_self
  ·exact (K.sub b hb).imp (List.mem_cons_of_mem _) id
theorem sl3_to (h : AHeap) {c m k : Nat} (hk : k ≤ m) : sliceA Try.prog h TChgs (.sl c 0 m 3) none (some (.int .i64 (k : Int))) = some (.val (.sl c 0 k 3), h) :=
 slice_to (P := Try.prog) (e := TChg) (k1 := .i64) (by kernel_rfl) (by kernel_rfl) (by kernel_rfl) hk
theorem LooseAt.take {S : List Nat} (k : LooseAt h v l) (hS : ∀ b ∈ blkV v, b ∉ S) {j : Nat} (hj : j ≤ l.length) : ∃ v', sliceA Try.prog h TChgs v none (some (.int .i64 (j : Int))) = some (.val v', h) ∧ RdL h S v' (l.take j) := by
 rcases k with ⟨rfl, rfl⟩ | ⟨c, rfl, h2, h3⟩
 ·have hj0 : j = 0 := Nat.le_zero.1 hj
  subst hj0
  exact ⟨.nsl, by kernel_rfl, rfl, fun _ _ i hi => absurd hi (Nat.not_lt_zero _)⟩
 ·have hl : (l.take j).length = j := by rw [List.length_take]; omega
  refine ⟨.sl c 0 j 3, sl3_to h hj, by rw [hl]; rfl, fun H t i hi => ⟨_, idx3 (by omega), ?_⟩⟩
  have k2 := h2.tch t h3 (hS c (List.mem_singleton.2 rfl))
  have := chgs_ld (l := l) (rest := []) (i := i) (by rw [List.append_nil]; exact k2) (by omega)
  rw [this, List.getElem_take]
end
section
variable {lo : Nat → Prop} {n d db : Nat} {h : AHeap} {D : List AV} {fs : Nat → FileS} {vs : Nat → Nat → AV} {p : Int} {ops B f : Nat} {s : DS}
theorem crash_do (hn : 1000000 < n) (K : DiskAt lo h db D fs vs p ops B) (hf : f < 32) (hb : B < 900000) {kept torn : Int} (ht : torn < 9223372036854775808) {Q : ARes → AHeap → Prop} {call2 : AHeap → R}
  (hk : ∀ H v, DoAt h H db TDisk (5 * f + 0) D (vs f 0) v (crashC (fs f) kept torn) → Wp (call2 H) Q) :
  Wp (
 lett (if 0 > kept then 0 else kept) fun (t8 : Int) =>
 Abs.obind (nilC (.ptr db (5 * f))) fun t10 =>
 Abs.obind (fldP 4 t10) fun t11 =>
 Abs.obind (ldCell h t11) fun v12 =>
 Abs.obind (lenL v12) fun t13 =>
 lett (if t13 < t8 then t13 else t8) fun (t14 : Int) =>
 Abs.obind (nilC (.ptr db (5 * f))) fun t16 =>
 Abs.obind (fldP 0 t16) fun t17 =>
 Abs.obind (nilC (.ptr db (5 * f))) fun t19 =>
 Abs.obind (fldP 4 t19) fun t20 =>
 Abs.obind (ldCell h t20) fun v21 =>
 Abs.outK (sliceA Try.prog h TChgs v21 none (some (.int .i64 t14))) fun v23 h_14 =>
 Abs.callN (world n (d + 2) 61 [t17, v23] h_14) fun _ h_16 =>
 Abs.obind (nilC (.ptr db (5 * f))) fun t27 =>
 Abs.obind (fldP 4 t27) fun t28 =>
 Abs.obind (ldCell h_16 t28) fun v29 =>
 Abs.obind (lenL v29) fun t30 =>
 lett (decide (t14 < t30)) fun (t31 : Bool) =>
 lett (fun (t35 : Bool) (h_25 : AHeap) =>
  lett call2 fun k28 =>
  ifB t35
  (
   Abs.obind (nilC (.ptr db (5 * f))) fun t37 =>
   Abs.obind (fldP 4 t37) fun t38 =>
   Abs.obind (ldCell h_25 t38) fun v39 =>
   Abs.obind (idxP 3 v39 t14) fun t41 =>
   Abs.obind (ldRow h_25 3 t41) fun t42 =>
   lett (newH h_25 TChg [.int .i64 0, .str 0 0, .int .i64 0]) fun h_50 =>
   Abs.obind (stRow h_50 3 t42 (newP h_25)) fun h_52 =>
   Abs.obind (ldCell h_52 (AV.ptr (AHeap.next h_25) 0)) fun v44 =>
   Abs.obind (avInt .i64 v44) fun t44 =>
   lett ((t44 : Int) == 0) fun (t45 : Bool) =>
   lett (fun (t50 : Bool) (h_58 : AHeap) =>
    lett (fun  (h_62 : AHeap) =>
     k28 h_62) fun k61 =>
    ifB t50
    (
     Abs.obind (ldCell h_58 (AV.ptr (AHeap.next h_25) 1)) fun v52 =>
     Abs.obind (avStr v52) fun t52 =>
     Abs.obind (ldCell h_58 (AV.ptr (AHeap.next h_25) 1)) fun v55 =>
     Abs.obind (avStr v55) fun t55 =>
     lett (IntKind.i64.wrap ((lenS t55) - 1)) fun (t57 : Int) =>
     lett (if t57 < torn then t57 else torn) fun (t58 : Int) =>
     Abs.obind (sliceS t52 0 t58) fun t59 =>
     Abs.obind (stRow h_58 1 [strA t59] (AV.ptr (AHeap.next h_25) 1)) fun h_71 =>
     Abs.obind (nilC (.ptr db (5 * f))) fun t62 =>
     Abs.obind (fldP 0 t62) fun t63 =>
     Abs.obind (ldRow h_71 3 (newP h_25)) fun t64 =>
     Abs.outK (bldSl Try.prog h_71 TChgs 1 [(0, .agg t64)]) fun v65 h_76 =>
     Abs.callN (world n (d + 2) 61 [t63, v65] h_76) fun _ h_78 =>
     k61 h_78)
    (
     k61 h_58)) fun j50 =>
   ifB t45
   (
    Abs.obind (ldCell h_52 (AV.ptr (AHeap.next h_25) 1)) fun v48 =>
    Abs.obind (avStr v48) fun t48 =>
    lett (!eqS t48 ([] : Bytes)) fun (t49 : Bool) =>
    j50 t49 h_52)
   (
    j50 false h_52))
  (
   k28 h_25)) fun j35 =>
 ifB t31
 (
  lett (decide (torn > 0)) fun (t34 : Bool) =>
  j35 t34 h_16)
 (
  j35 false h_16)) Q := by
 have C := K.cells f hf
 have Mf := K.mem f hf
 obtain ⟨o1, o2, o3, o4⟩ := K.ok f hf
 have hlen := K.len
 have hdb := K.hdb
 have dis : ∀ b ∈ blkV (vs f 2), b ∉ db :: blkV (vs f 0) := fun b hb hm => by
  rcases List.mem_cons.1 hm with rfl | hm
  ·exact K.nd hf (by decide) hb
  ·exact K.ne hf (by decide) hf (by decide) (fun h => absurd h.2 (by decide)) b hb hm
 have hL := (Mf.loose.rd dis).1
 obtain ⟨k, hkk⟩ : ∃ k, k = keptN (fs f) kept := ⟨_, rfl⟩
 have hk14 : (if ((fs f).loose.length : Int) < (if 0 > kept then 0 else kept) then ((fs f).loose.length : Int) else (if 0 > kept then 0 else kept)) = (k : Int) := by
  rw [hkk]
  unfold keptN
  split <;> split at * <;> omega
 have hkl : k ≤ (fs f).loose.length := by
  rw [hkk]
  exact Nat.min_le_right _ _
 refine Wp.lett (Wp.obind (nilC_ptr _ _) (Wp.obind (fldP_ptr _ _ _) (Wp.obind (RowH.cell' K.row C.c4) (Wp.obind hL ?_))))
 rw [hk14]
 refine Wp.lett (Wp.obind (nilC_ptr _ _) (Wp.obind (fldP_ptr _ _ _) (Wp.obind (nilC_ptr _ _) (Wp.obind (fldP_ptr _ _ _) (Wp.obind (RowH.cell' K.row C.c4) ?_)))))
 obtain ⟨v', e1, rd1⟩ := Mf.loose.take dis hkl
 refine Wp.outK e1 ?_
 have hst := sumL_take (fs f).loose k
 obtain ⟨h4, v4, e4, K4⟩ := do_ok (n := n) (d := d + 1) (T := TDisk) (o := 5 * f + 0) (x := (fs f).sure) hn hdb K.row C.c0 C.c1 Mf.sure (K.nd hf (by decide)) K.ex rd1 (by rw [List.length_take]; omega) (Legal_take _ _ k o2) (by omega)
 refine Wp.callN e4 ?_
 have hdb4 : db < h4.next := Nat.lt_of_lt_of_le hdb K4.tch.1
 have g4 : ((D.set (5 * f + 0) (.bool (doL (fs f).sure ((fs f).loose.take k)).th)).set (5 * f + 0 + 1) v4)[5 * f + 4]? = some (vs f 2) := by
  rw [List.getElem?_set_ne (by omega), List.getElem?_set_ne (by omega)]
  exact C.c4
 refine Wp.obind (nilC_ptr _ _) (Wp.obind (fldP_ptr _ _ _) (Wp.obind (RowH.cell' K4.row g4) (Wp.obind hL (Wp.lett (Wp.lettG fun j35 e35 => ?_)))))
 have hcc : crashC (fs f) kept torn = match (fs f).loose[k]? with
   | some c => if tears c torn then do1 (doL (fs f).sure ((fs f).loose.take k)) (tornC c torn) else doL (fs f).sure ((fs f).loose.take k)
   | none => doL (fs f).sure ((fs f).loose.take k) := by
  rw [hkk]
  rfl
 by_cases h1 : k < (fs f).loose.length
 ·refine Wp.ift (by rw [decide_eq_true_eq]; omega) (Wp.lett ?_)
  rw [List.getElem?_eq_getElem h1] at hcc
  obtain ⟨c, hc⟩ : ∃ c, c = (fs f).loose[k] := ⟨_, rfl⟩
  rw [← hc] at hcc
  have hcc : crashC (fs f) kept torn = if tears c torn then do1 (doL (fs f).sure ((fs f).loose.take k)) (tornC c torn) else doL (fs f).sure ((fs f).loose.take k) := hcc
  by_cases h2 : 0 < torn
  ·rw [decide_eq_true (show torn > 0 from h2), e35]
   refine Wp.lettG fun k28 e28 => Wp.ift rfl ?_
   obtain ⟨pp, i5, r5⟩ := (Mf.loose.rd dis).2 h4 K4.tch k h1
   rw [← hc] at r5
   refine Wp.obind (nilC_ptr _ _) (Wp.obind (fldP_ptr _ _ _) (Wp.obind (RowH.cell' K4.row g4) (Wp.obind i5 (Wp.obind r5 ?_))))
   refine Wp.mnew (Mem.nil [] h4) fun h5 M5 => ?_
   rw [newP_eq]
   refine Wp.sa0 M5 rfl rfl rfl fun h6 M6 => ?_
   have t6 := M6.tch
   have hn6 := t6.1
   refine Wp.ld0 M6 (show (chgC c)[0]? = some (.int .i64 (c.k : Int)) from rfl) (Wp.obind (avInt_int _ _) (Wp.lett (Wp.lettG fun j50 e50 => ?_)))
   have K6 : DoAt h h6 db TDisk (5 * f + 0) D (vs f 0) v4 (doL (fs f).sure ((fs f).loose.take k)) := ⟨K4.row.tch t6 hdb4 (fun h => nomatch h), K4.buf.tch t6 (fun _ _ h => nomatch h), K4.ndb, K4.sub, K4.tch.trans' t6 (fun b hb => nomatch hb), by rw [t6.2.1, K4.ex]⟩
   have no : ¬ tears c torn → Wp (j50 false h6) Q := by
    intro hno
    rw [if_neg hno] at hcc
    rw [e50]
    refine Wp.lettG fun k61 e61 => Wp.iff rfl ?_
    rw [e61, e28]
    exact hk h6 v4 (by rw [hcc]; exact K6)
   by_cases h3 : c.k = 0
   ·refine Wp.ift (beq_t (by omega)) (Wp.ld0 M6 (show (chgC c)[1]? = some (strA c.s) from rfl) (Wp.obind (avStr_str _) (Wp.lett ?_)))
    by_cases h4s : c.s = []
    ·rw [eqS_true.2 h4s]
     exact no (fun h => h.2.2 h4s)
    ·rw [eqS_false.2 h4s, e50]
     have hy : tears c torn := ⟨h2, h3, h4s⟩
     rw [if_pos hy] at hcc
     have hsl : 0 < c.s.length := List.length_pos_iff.2 h4s
     have hcs : c.s.length ≤ B := by
      have := sumL_at (fs f).loose k h1
      rw [← hc] at this
      omega
     have hll := lenS_nat c.s
     refine Wp.lettG fun k61 e61 => Wp.ift rfl ?_
     refine Wp.ld0 M6 (show (chgC c)[1]? = some (strA c.s) from rfl) (Wp.obind (avStr_str _) (Wp.ld0 M6 (show (chgC c)[1]? = some (strA c.s) from rfl) (Wp.obind (avStr_str _) (Wp.lettw (by omega) (by omega) ?_))))
     have hmin : (if lenS c.s - 1 < torn then lenS c.s - 1 else torn) = min torn ((c.s.length : Int) - 1) := by
      split <;> omega
     rw [hmin]
     have hs0 := sliceS_int (l := c.s) (a := 0) (b := min torn ((c.s.length : Int) - 1)) (by omega) (by omega) (by omega)
     have hs1 : (c.s.drop (0 : Int).toNat).take ((min torn ((c.s.length : Int) - 1)).toNat - (0 : Int).toNat) = (tornC c torn).s := by
      rw [show (0 : Int).toNat = 0 from rfl, List.drop_zero, Nat.sub_zero]
      rfl
     rw [hs1] at hs0
     refine Wp.lett (Wp.obind hs0 ?_)
     refine Wp.ms0 M6 (by show 1 < 3; decide) rfl fun h7 M7 => ?_
     refine Wp.obind (nilC_ptr _ _) (Wp.obind (fldP_ptr _ _ _) (Wp.lr0 M7 rfl ?_))
     have hset : (chgC c).set 1 (strA (tornC c torn).s) = chgC (tornC c torn) := by
      show [AV.int .i64 (c.k : Int), strA (tornC c torn).s, .int .i64 c.n] = [AV.int .i64 ((0 : Nat) : Int), strA (tornC c torn).s, .int .i64 c.n]
      rw [h3]
     rw [hset] at M7 ⊢
     have hx7 : h7.ex = [] := by rw [M7.tch.2.1, K4.ex]
     refine Wp.mnews M7 (bldSlChg _ _ _ _) rfl (by rw [K4.ex]; rfl) fun h8 M8 => ?_
     have t7 := M7.tch
     have t8 := M8.tch
     have K8 : DoAt h h8 db TDisk (5 * f + 0) D (vs f 0) v4 (doL (fs f).sure ((fs f).loose.take k)) := ⟨K4.row.tch t8 hdb4 (fun h => nomatch h), K4.buf.tch t8 (fun _ _ h => nomatch h), K4.ndb, K4.sub, K4.tch.trans' t8 (fun b hb => nomatch hb), by rw [t8.2.1, K4.ex]⟩
     have hn7 := t7.1
     have hh8 := M8.at0.2.1
     have rd : RdL h8 (db :: blkV v4) (.sl h7.next 0 1 3) [tornC c torn] := by
      refine ⟨rfl, fun HH t i hi => ?_⟩
      have hi0 : i = 0 := by
       have : i < 1 := hi
       omega
      subst hi0
      refine ⟨_, idx3 (by decide), ?_⟩
      refine RowH.ldAll (M8.at0.1.tch t hh8 fun hm => ?_) rfl
      rcases List.mem_cons.1 hm with hm | hm
      ·omega
      ·have := K4.buf.lt _ hm
       omega
     have gl : 5 * f + 0 + 1 < ((D.set (5 * f + 0) (.bool (doL (fs f).sure ((fs f).loose.take k)).th)).set (5 * f + 0 + 1) v4).length := by
      rw [List.length_set, List.length_set]
      omega
     have hdl := doL_len ((fs f).loose.take k) (fs f).sure
     have hat := sumL_at (fs f).loose k h1
     rw [← hc] at hat
     have htl : (tornC c torn).s.length ≤ c.s.length := by
      show (c.s.take _).length ≤ _
      rw [List.length_take]
      exact Nat.min_le_right _ _
     obtain ⟨h9, v9, e9, K9⟩ := do_ok (n := n) (d := d + 1) (T := TDisk) (o := 5 * f + 0) (D := ((D.set (5 * f + 0) (.bool (doL (fs f).sure ((fs f).loose.take k)).th)).set (5 * f + 0 + 1) v4)) (x := doL (fs f).sure ((fs f).loose.take k)) hn (Nat.lt_of_lt_of_le hdb4 t8.1) K8.row (by rw [List.getElem?_set_ne (by omega), List.getElem?_set_self (by omega)]) (by rw [List.getElem?_set_self (by rw [List.length_set]; omega)]) K8.buf K8.ndb K8.ex rd (by show 1 < 1000000; decide) ⟨.inl rfl, trivial⟩ (by show _ + ((tornC c torn).s.length + 0) ≤ _; omega)
     refine Wp.callN e9 ?_
     rw [e61, e28]
     exact hk h9 v9 (by rw [hcc]; exact K8.trans K9)
   ·refine Wp.iff (beq_f (by omega)) ?_
    exact no (fun h => h3 h.2.1)
  ·rw [decide_eq_false (show ¬ torn > 0 from h2), e35]
   rw [if_neg (fun h => h2 h.1)] at hcc
   refine Wp.lettG fun k28 e28 => Wp.iff rfl ?_
   rw [e28]
   exact hk h4 v4 (by rw [hcc]; exact K4)
 ·rw [List.getElem?_eq_none (by omega)] at hcc
  refine Wp.iff (by rw [decide_eq_false_iff_not]; omega) ?_
  rw [e35]
  refine Wp.lettG fun k28 e28 => Wp.iff rfl ?_
  rw [e28]
  exact hk h4 v4 (by rw [hcc]; exact K4)
end
section
variable {lo : Nat → Prop} {n d db : Nat} {h : AHeap} {D : List AV} {fs : Nat → FileS} {vs : Nat → Nat → AV} {p : Int} {ops B f : Nat} {s : DS}
theorem fcrash_ok (hn : 1000000 < n) (K : DiskAt lo h db D fs vs p ops B) (hf : f < 32) (hb : B < 900000) {kept torn : Int} (ht : torn < 9223372036854775808) :
  ∃ h' D' vs' S, world n (d + 3) 40 [.ptr db (5 * f), .int .i64 kept, .int .i64 torn] h = some (.ret (.tup []), h') ∧ DiskAt lo h' db D' (upd fs f (crashF (fs f) kept torn)) vs' p ops B ∧ Tch S h h' ∧ ∀ b ∈ S, lo b := by
 suffices hK : Wp (world n (d + 3) 40 [.ptr db (5 * f), .int .i64 kept, .int .i64 torn] h) fun r h' => r = .ret (.tup []) ∧ ∃ D' vs' S, DiskAt lo h' db D' (upd fs f (crashF (fs f) kept torn)) vs' p ops B ∧ Tch S h h' ∧ ∀ b ∈ S, lo b by
  obtain ⟨_, h', e, rfl, D', vs', S, k⟩ := hK
  exact ⟨h', D', vs', S, e, k⟩
 rw [w_disk_file_crash]
 unfold disk_file_crash
 refine crash_do hn K hf hb ht (fun H v K4 => ?_)
 have C := K.cells f hf
 have Mf := K.mem f hf
 have hlen := K.len
 have hdb := K.hdb
 have hcl := crashC_len kept torn (K.ok f hf)
 have hdb4 : db < H.next := Nat.lt_of_lt_of_le hdb K4.tch.1
 have g0 : ((D.set (5 * f + 0) (.bool (crashC (fs f) kept torn).th)).set (5 * f + 0 + 1) v)[5 * f + 0]? = some (.bool (crashC (fs f) kept torn).th) := by
  rw [List.getElem?_set_ne (by omega), List.getElem?_set_self (by omega)]
 have g1 : ((D.set (5 * f + 0) (.bool (crashC (fs f) kept torn).th)).set (5 * f + 0 + 1) v)[5 * f + 0 + 1]? = some v := by
  rw [List.getElem?_set_self (by rw [List.length_set]; omega)]
 obtain ⟨h5, v5, e5, k5, t5, s5⟩ := copy_ok (n := n) (d := d) K4.row hdb4 g0 g1 K4.buf K4.ex (by omega)
 refine Wp.obind (nilC_ptr _ _) (Wp.obind (fldP_ptr _ _ _) (Wp.callN e5 (Wp.obind (avAgg_agg _) (Wp.obind (nilC_ptr _ _) (Wp.obind (fldP_ptr _ _ _) ?_)))))
 have hn5 := t5.1
 have kr5 := K4.row.tch t5 hdb4 (fun h => nomatch h)
 have hl4 : ((D.set (5 * f + 0) (.bool (crashC (fs f) kept torn).th)).set (5 * f + 0 + 1) v).length = 162 := by rw [List.length_set, List.length_set]; exact hlen
 refine Wp.stN kr5 (rfl : ([.bool (crashC (fs f) kept torn).th, v5] : List AV).length = 2) (show 5 * f + 2 + 2 ≤ _ by omega) (by rw [show [AV.bool (crashC (fs f) kept torn).th, v5].all AV.one = (true && (v5.one && true)) from rfl, k5.one.1]; rfl) fun h6 k6 t6 n6 => ?_
 rw [laid2 (show 5 * f + 2 + 1 < _ by omega)] at k6
 refine Wp.obind (nilC_ptr _ _) (Wp.obind (fldP_ptr _ _ _) ?_)
 show Wp (Abs.obind (stRow h6 1 [AV.nsl] (.ptr db (5 * f + 4))) _) _
 refine Wp.st1 k6 (show 5 * f + 4 < _ by rw [List.length_set, List.length_set]; omega) rfl fun h7 k7 t7 n7 => ?_
 have hn4 := K4.tch.1
 have td : ∀ b ∈ [db], b ∈ db :: blkV (vs f 0) ∨ h.next ≤ b := fun b hb => .inl (by rw [List.mem_singleton.1 hb]; exact List.mem_cons_self)
 have T : Tch (db :: blkV (vs f 0)) h h7 := (((K4.tch.trans' t5 fun b hb => nomatch hb).trans' t6 td).trans' t7 td)
 have nd5 : db ∉ blkV v5 := fun hb => by
  have := s5 _ hb
  omega
 have KU := K.upd (B' := B) (x := crashF (fs f) kept torn) (w := fun k => if k = 0 then v else if k = 1 then v5 else .nsl) hf T (fun b hb => ?_) k7 (by rw [List.length_set, List.length_set, List.length_set]; exact hl4) ⟨?_, ?_, ?_, ?_, ?_⟩ (fun i hi => ?_) (fun k hk b hb => ?_) (fun k l hk hl hne b hb hb' => ?_) ⟨?_, ?_, ?_⟩ (crashF_ok kept torn (K.ok f hf)) (Nat.le_refl _)
 ·refine Wp.ret ⟨rfl, _, _, db :: blkV (vs f 0), KU, T, fun b hb => ?_⟩
  rcases List.mem_cons.1 hb with hb | hb
  ·rw [hb]
   exact K.hlo
  ·exact K.low f 0 hf (by decide) b hb
 ·rcases List.mem_cons.1 hb with hb | hb
  ·exact .inl hb
  ·exact .inr ⟨0, by decide, hb⟩
 ·rw [List.getElem?_set_ne (by omega), List.getElem?_set_ne (by omega), List.getElem?_set_ne (by omega)]
  exact g0
 ·rw [List.getElem?_set_ne (by omega), List.getElem?_set_ne (by omega), List.getElem?_set_ne (by omega)]
  exact g1
 ·rw [List.getElem?_set_ne (by omega), List.getElem?_set_ne (by omega), List.getElem?_set_self (by omega)]
  rfl
 ·rw [List.getElem?_set_ne (by omega), List.getElem?_set_self (by rw [List.length_set]; omega)]
  rfl
 ·rw [List.getElem?_set_self (by rw [List.length_set, List.length_set]; omega)]
  rfl
 ·rw [List.getElem?_set_ne (by omega), List.getElem?_set_ne (by omega), List.getElem?_set_ne (by omega), List.getElem?_set_ne (by omega), List.getElem?_set_ne (by omega)]
 ·rcases k with _ | _ | k
  ·exact K4.sub b hb
  ·right
   have := s5 b hb
   omega
  ·exact nomatch hb
 ·have q01 : b ∈ blkV v → b ∈ blkV v5 → False := fun h0 h1 => by
   have h2 := s5 b h1
   have h3 := K4.buf.lt b h0
   omega
  rcases k with _ | _ | k <;> rcases l with _ | _ | l
  ·omega
  ·exact q01 hb hb'
  ·exact nomatch hb'
  ·exact q01 hb' hb
  ·omega
  ·exact nomatch hb'
  ·exact nomatch hb
  ·exact nomatch hb
  ·exact nomatch hb
 ·have k1 := K4.buf.tch t5 (fun _ _ h => nomatch h)
  have k2 := k1.tch t6 fun b hb hm => K4.ndb (List.mem_singleton.1 hm ▸ hb)
  exact k2.tch t7 fun b hb hm => K4.ndb (List.mem_singleton.1 hm ▸ hb)
 ·have k2 := k5.tch t6 fun b hb hm => nd5 (List.mem_singleton.1 hm ▸ hb)
  exact k2.tch t7 fun b hb hm => nd5 (List.mem_singleton.1 hm ▸ hb)
 ·exact .inl ⟨rfl, rfl⟩
def RdI (lo : Nat → Prop) (h : AHeap) (lv : AV) (zs : List Int) : Prop := lenL lv = some (zs.length : Int) ∧ ∀ S H, Tch S h H → (∀ b ∈ S, lo b) → ∀ (i : Nat) (hi : i < zs.length), ∃ p, idxP 1 lv (i : Int) = some p ∧ ldCell H p = some (.int .i64 zs[i])
theorem RdI.tch {S : List Nat} {h h' : AHeap} {lv : AV} {zs : List Int} (k : RdI lo h lv zs) (t : Tch S h h') (hS : ∀ b ∈ S, lo b) : RdI lo h' lv zs :=
 ⟨k.1, fun S' H t' hS' i hi => k.2 (S ++ S') H ((t.mono fun _ hb => .inl (List.mem_append_left _ hb)).trans (t'.mono fun _ hb => .inl (List.mem_append_right _ hb))) (fun b hb => (List.mem_append.1 hb).elim (hS b) (hS' b)) i hi⟩
def keepAt (zs : List Int) (f : Nat) : Int := zs.getD f 0
def crashD (s : DS) (zs : List Int) (torn : Int) : DS := ⟨fun f => if f < 32 then crashF (s.fs f) (keepAt zs f) torn else s.fs f, -1, s.ops⟩
theorem crash_loop (hn : 1000000 < n) (hb : B < 900000) {torn : Int} (ht : torn < 9223372036854775808) {lv : AV} {zs : List Int} (hz : zs.length < 9223372036854775808) {k11 : AHeap → R} {Q : ARes → AHeap → Prop}
  (hk : ∀ S H, At lo H db ⟨fun f => if f < 32 then crashF (s.fs f) (keepAt zs f) torn else s.fs f, s.p, s.ops⟩ B → Tch S h H → (∀ b ∈ S, lo b) → Wp (k11 H) Q) :
  ∀ (r i fu : Nat) (H : AHeap) (S : List Nat), r + i = 32 → r < fu → At lo H db ⟨fun f => if f < i then crashF (s.fs f) (keepAt zs f) torn else s.fs f, s.p, s.ops⟩ B → Tch S h H → (∀ b ∈ S, lo b) → RdI lo H lv zs →
   Wp (disk_Disk_Crash_L0 (world n (d + 3)) (.ptr db 0) lv torn k11 fu (i : Int) H) Q
 | _, _, 0, _, _, _, hf, _, _, _, _ => by omega
 | 0, i, fu + 1, H, S, hi, hf, K, t, hS, rd => by
  obtain rfl : i = 32 := by omega
  rw [disk_Disk_Crash_L0_s]
  unfold disk_Disk_Crash_L0b
  refine Wp.lett (Wp.iff rfl ?_)
  exact hk S H K t hS
 | r + 1, i, fu + 1, H, S, hi, hf, K, t, hS, rd => by
  obtain ⟨D, vs, K⟩ := K
  have hi32 : i < 32 := by omega
  rw [disk_Disk_Crash_L0_s]
  unfold disk_Disk_Crash_L0b
  refine Wp.lett (Wp.ift (by rw [decide_eq_true_eq]; omega) ?_)
  refine Wp.obind rd.1 (Wp.lett (Wp.lettG fun k32 e32 => ?_))
  have next : ∀ z : Int, z = keepAt zs i → Wp (k32 z H) Q := by
   intro z hzk
   rw [e32, hzk]
   refine Wp.obind (nilC_ptr _ _) (Wp.obind (fldP_ptr _ _ _) (Wp.obind (idxF hi32) ?_))
   obtain ⟨h2, D2, vs2, S2, e2, K2, t2, hS2⟩ := fcrash_ok (n := n) (d := d) hn K hi32 hb (kept := keepAt zs i) ht
   refine Wp.callN e2 (Wp.lettw (by omega) (by omega) ?_)
   rw [show (i : Int) + 1 = ((i + 1 : Nat) : Int) by omega]
   refine crash_loop hn hb ht hz hk r (i + 1) fu h2 (S ++ S2) (by omega) (by omega) ⟨D2, vs2, ?_⟩ ((t.mono fun _ hb => .inl (List.mem_append_left _ hb)).trans (t2.mono fun _ hb => .inl (List.mem_append_right _ hb))) (fun b hb => (List.mem_append.1 hb).elim (hS b) (hS2 b)) (rd.tch t2 hS2)
   have ef : upd (fun f => if f < i then crashF (s.fs f) (keepAt zs f) torn else s.fs f) i (crashF ((fun f => if f < i then crashF (s.fs f) (keepAt zs f) torn else s.fs f) i) (keepAt zs i) torn) = fun f => if f < i + 1 then crashF (s.fs f) (keepAt zs f) torn else s.fs f := by
    funext j
    unfold Go.Proofs.Yteecmjmglmpbpaa.upd
    dsimp only
    by_cases e : j = i
    ·subst e
     rw [if_pos rfl, if_neg (Nat.lt_irrefl _), if_pos (Nat.lt_succ_self _)]
    ·rw [if_neg e]
     by_cases e2 : j < i
     ·rw [if_pos e2, if_pos (by omega)]
     ·rw [if_neg e2, if_neg (by omega)]
   rw [← ef]
   exact K2
  by_cases h1 : i < zs.length
  ·obtain ⟨pp, q1, q2⟩ := rd.2 [] H (Tch.refl _ _) (fun _ h => nomatch h) i h1
   refine Wp.ift (by rw [decide_eq_true_eq]; omega) (Wp.obind q1 (Wp.obind q2 (Wp.obind (avInt_int _ _) ?_)))
   refine next _ ?_
   unfold keepAt
   rw [List.getD_eq_getElem?_getD, List.getElem?_eq_getElem h1]
   rfl
  ·refine Wp.iff (by rw [decide_eq_false_iff_not]; omega) ?_
   refine next _ ?_
   unfold keepAt
   rw [List.getD_eq_getElem?_getD, List.getElem?_eq_none (by omega)]
   rfl
theorem crash_ok (hn : 1000000 < n) (hb : B < 900000) {torn : Int} (ht : torn < 9223372036854775808) {lv : AV} {zs : List Int} (hz : zs.length < 9223372036854775808) (K : At lo h db s B) (rd : RdI lo h lv zs) :
  Does lo db h (world n (d + 4) 15 [.ptr db 0, lv, .int .i64 torn] h) 0 (crashD s zs torn) B := by
 apply Does.of
 rw [w_disk_Disk_Crash]
 unfold disk_Disk_Crash
 refine Wp.outK (eqDisk db 0 h) (Wp.obind (avBool_bool _) (Wp.iff rfl (Wp.lettG fun k11 e11 => ?_)))
 refine crash_loop (s := s) hn hb ht hz (fun S H K' t hS => ?_) 32 0 n h [] rfl (by omega) ?_ (Tch.refl _ _) (fun _ h => nomatch h) rd
 ·obtain ⟨D, vs, K'⟩ := K'
  have hl := K'.len
  rw [e11]
  refine Wp.obind (nilC_ptr _ _) (Wp.obind (fldP_ptr _ _ _) ?_)
  refine Wp.st1 K'.row (show 0 + 160 < D.length by omega) rfl fun h2 k2 t2 n2 => ?_
  rw [Nat.zero_add] at k2
  refine Wp.ret ⟨rfl, db :: S, ⟨_, vs, K'.setP (p' := -1) ⟨Int.le_refl _, by decide⟩ k2 t2⟩, (t.mono fun _ hb => .inl (List.mem_cons_of_mem _ hb)).trans' t2 fun b hb => .inl (by rw [List.mem_singleton.1 hb]; exact List.mem_cons_self), fun b hb => ?_⟩
  rcases List.mem_cons.1 hb with hb | hb
  ·rw [hb]
   exact K'.hlo
  ·exact hS b hb
 ·have e : (fun f => if f < 0 then crashF (s.fs f) (keepAt zs f) torn else s.fs f) = s.fs := by
   funext j
   rw [if_neg (Nat.not_lt_zero _)]
  rw [e]
  exact K
end
def IAt (h : AHeap) (v : AV) (zs : List Int) : Prop := (v = .nsl ∧ zs = []) ∨ ∃ c, v = .sl c 0 zs.length 1 ∧ RowH h c 3 (zs.map (.int .i64)) ∧ c < h.next
theorem fitI : fitB Try.prog 3 8 = true := by kernel_rfl
theorem bldI1 (h : AHeap) (z : Int) : bldSl Try.prog h 32 1 [(0, .int .i64 z)] = outNewS h 3 [.int .i64 z] 1 1 := by kernel_rfl
section
variable {h h' : AHeap} {v : AV} {zs : List Int}
theorem IAt.tch {S : List Nat} (k : IAt h v zs) (t : Tch S h h') (hS : ∀ b ∈ blkV v, b ∉ S) : IAt h' v zs := by
 rcases k with k | ⟨c, rfl, h2, h3⟩
 ·exact .inl k
 ·exact .inr ⟨c, rfl, h2.tch t h3 (hS c (List.mem_singleton.2 rfl)), Nat.lt_of_lt_of_le h3 t.1⟩
theorem IAt.lt (k : IAt h v zs) : ∀ b ∈ blkV v, b < h.next := by
 rcases k with ⟨rfl, _⟩ | ⟨c, rfl, _, h3⟩
 ·exact fun b hb => (nomatch hb)
 ·intro b hb
  rw [List.mem_singleton.1 hb]
  exact h3
theorem IAt.len (k : IAt h v zs) : lenL v = some (zs.length : Int) := by
 rcases k with ⟨rfl, rfl⟩ | ⟨c, rfl, _⟩ <;> rfl
theorem IAt.at (k : IAt h v zs) {i : Nat} (hi : i < zs.length) : ∃ p, idxP 1 v (i : Int) = some p ∧ ldCell h p = some (.int .i64 zs[i]) := by
 rcases k with ⟨rfl, rfl⟩ | ⟨c, rfl, h2, _⟩
 ·exact absurd hi (Nat.not_lt_zero _)
 ·refine ⟨_, idxP_sl hi, RowH.cell' h2 ?_⟩
  rw [Nat.zero_add, Nat.mul_one, List.getElem?_map, List.getElem?_eq_getElem hi]
  rfl
theorem IAt.push {b1 : Nat} {z : Int} (k : IAt h v zs) (kr : RowH h b1 3 [.int .i64 z]) (hm : zs.length < 20000000) (hx : h.ex = []) :
  ∃ h' v', opAppend Try.prog h 32 32 v (.sl b1 0 1 1) = some (.val v', h') ∧ IAt h' v' (zs ++ [z]) ∧ Tch (blkV v) h h' ∧ blkV v' = [h.next] := by
 have he : Abs.elemOf Try.prog 32 = some 3 := by kernel_rfl
 have hu : notInt Try.prog 32 = true := by kernel_rfl
 have hsz : Try.prog.cellsOf 3 = 1 := by kernel_rfl
 have hex : memB 3 h.ex = false := by rw [hx]; rfl
 have el : zs.length + 1 = (zs ++ [z]).length := by rw [List.length_append, List.length_singleton]
 rcases k with ⟨rfl, rfl⟩ | ⟨b, rfl, h2, h3⟩
 ·have a1 := append_new (P := Try.prog) (h := h) (t := 32) (u := 32) (n := 0) (x := .sl b1 0 1 1) he hu hsz rfl (firstRow kr rfl) (bytesFit_of fitI (by omega) (by omega)) rfl hex
  exact ⟨_, _, a1, .inr ⟨h.next, rfl, RowH.new _ _ _, Nat.lt_succ_self _⟩, Tch.newH _ _ _ _, rfl⟩
 ·have hcl : (zs.map (AV.int .i64)).length = zs.length := List.length_map ..
  have a1 := append_more (P := Try.prog) (h := h) (t := 32) (u := 32) (b := b) (o := 0) (m := zs.length) (n := 0) (x := .sl b1 0 1 1) (cs := zs.map (.int .i64)) he hu hsz rfl (firstRow kr rfl) (bytesFit_of fitI (by omega) (by omega)) rfl hex (by
   have := h2.part (o := 0) (n := (zs.map (AV.int .i64)).length) (by omega)
   rw [List.drop_zero, List.take_length] at this
   rw [show zs.length * 1 = (zs.map (AV.int .i64)).length by omega]
   exact this) h2.type
  refine ⟨_, _, a1, .inr ⟨h.next, by rw [el], ?_, Nat.lt_succ_self _⟩, (Tch.put (S := [b]) (.inl (List.mem_singleton.2 rfl)) _).trans (Tch.newH _ _ _ _), rfl⟩
  rw [List.map_append]
  exact RowH.new (h.put b .dead) _ _
end
def filesL (s : DS) : Nat → List Int
 | 0 => []
 | k + 1 => if (s.fs k).seen.th = true then filesL s k ++ [(k : Int)] else filesL s k
theorem filesL_le (s : DS) : ∀ k, (filesL s k).length ≤ k
 | 0 => Nat.le_refl _
 | k + 1 => by
  have := filesL_le s k
  unfold filesL
  split
  ·rw [List.length_append, List.length_singleton]
   omega
  ·omega
section
variable {lo : Nat → Prop} {n d db rb B : Nat} {h : AHeap} {s : DS}
theorem files_loop {D : List AV} {vs : Nat → Nat → AV} {fs : Nat → FileS} {p : Int} {ops : Nat} (hfs : fs = s.fs) (K : DiskAt lo h db D fs vs p ops B) {k12 : AV → AHeap → R} {Q : ARes → AHeap → Prop}
  (hk : ∀ H v, Tch [] h H → IAt H v (filesL s 32) → (∀ b ∈ blkV v, h.next ≤ b) → Wp (k12 v H) Q) :
  ∀ (r i fu : Nat) (H : AHeap) (v : AV), r + i = 32 → r < fu → Tch [] h H → IAt H v (filesL s i) → (∀ b ∈ blkV v, h.next ≤ b) → Wp (disk_Disk_Files_L0 (.ptr db 0) k12 fu v (i : Int) H) Q
 | _, _, 0, _, _, _, hf, _, _, _ => by omega
 | 0, i, fu + 1, H, v, hi, _, t, k, hb => by
  obtain rfl : i = 32 := by omega
  rw [disk_Disk_Files_L0_s]
  unfold disk_Disk_Files_L0b
  refine Wp.lett (Wp.iff rfl ?_)
  exact hk H v t k hb
 | r + 1, i, fu + 1, H, v, hi, hf, t, k, hb => by
  have hi32 : i < 32 := by omega
  have KH := K.tch t (fun _ h => nomatch h)
  have C := KH.cells i hi32
  have hle := filesL_le s i
  have hn := t.1
  rw [disk_Disk_Files_L0_s]
  unfold disk_Disk_Files_L0b
  refine Wp.lett (Wp.ift (by rw [decide_eq_true_eq]; omega) (Wp.obind (nilC_ptr _ _) (Wp.obind (fldP_ptr _ _ _) (Wp.obind (idxF hi32) (Wp.obind (fldP_ptr _ _ _) (Wp.obind (fldP_ptr _ _ _) (Wp.obind (RowH.cell' KH.row C.c2) (Wp.obind (avBool_bool _) (Wp.lettG fun k32 e32 => ?_)))))))))
  rw [hfs]
  cases hth : (s.fs i).seen.th with
  | true =>
   have ef : filesL s (i + 1) = filesL s i ++ [(i : Int)] := if_pos hth
   refine Wp.ift rfl (Wp.mnews (Mem.nil [] H) (bldI1 _ _) rfl (by rw [KH.ex]; rfl) fun h2 M2 => ?_)
   have t2 := M2.tch
   have hn2 := t2.1
   obtain ⟨h3, v3, e3, k3, t3, b3⟩ := (k.tch t2 (fun _ _ h => nomatch h)).push M2.at0.1 (by omega) (by rw [t2.2.1, KH.ex])
   refine Wp.outK e3 ?_
   rw [e32]
   refine Wp.lettw (by omega) (by omega) ?_
   rw [show (i : Int) + 1 = ((i + 1 : Nat) : Int) by omega]
   refine files_loop hfs K hk r (i + 1) fu h3 v3 (by omega) (by omega) ((t.trans t2).trans' t3 fun b hbb => .inr (hb b hbb)) (by rw [ef]; exact k3) (fun b hbb => ?_)
   rw [b3] at hbb
   have := List.mem_singleton.1 hbb
   omega
  | false =>
   have ef : filesL s (i + 1) = filesL s i := if_neg (by rw [hth]; decide)
   refine Wp.iff rfl ?_
   rw [e32]
   refine Wp.lettw (by omega) (by omega) ?_
   rw [show (i : Int) + 1 = ((i + 1 : Nat) : Int) by omega]
   exact files_loop hfs K hk r (i + 1) fu H v (by omega) (by omega) t (by rw [ef]; exact k) hb
theorem files_a (K : At lo h db s B) (hn : 1000000 < n) : ∃ h' v, world n (d + 1) 12 [.ptr db 0] h = some (.ret v, h') ∧ Tch [] h h' ∧ IAt h' v (filesL s 32) ∧ ∀ b ∈ blkV v, h.next ≤ b := by
 suffices hK : Wp (world n (d + 1) 12 [.ptr db 0] h) fun r h' => ∃ v, r = .ret v ∧ Tch [] h h' ∧ IAt h' v (filesL s 32) ∧ ∀ b ∈ blkV v, h.next ≤ b by
  obtain ⟨_, h', e, v, rfl, k⟩ := hK
  exact ⟨h', v, e, k⟩
 obtain ⟨D, vs, K⟩ := K
 rw [w_disk_Disk_Files]
 unfold disk_Disk_Files
 refine Wp.outK (eqDisk db 0 h) (Wp.obind (avBool_bool _) (Wp.iff rfl (Wp.lettG fun k12 e12 => ?_)))
 refine files_loop (s := s) rfl K (fun H v t k hb => ?_) 32 0 n h .nsl rfl (by omega) (Tch.refl _ _) (.inl ⟨rfl, rfl⟩) (fun _ hb => nomatch hb)
 rw [e12]
 exact Wp.ret ⟨v, rfl, t, k, hb⟩
theorem on_b (K : At lo h db s B) : world n (d + 1) 28 [.ptr db 0] h = some (.ret (.bool (decide (s.p ≠ 0))), h) := by
 obtain ⟨D, vs, K⟩ := K
 exact on_w K
end
structure Ent where
 c : Int
 t : Int
 f : Int
deriving DecidableEq
def entC (e : Ent) : List AV := [.int .i64 e.c, .int .i64 e.t, .int .i64 e.f]
def balOk (t f : Int) : Prop := 0 ≤ t ∧ t ≤ 1099511627776 ∧ -1 ≤ f ∧ f ≤ 2
instance (t f : Int) : Decidable (balOk t f) := inferInstanceAs (Decidable (_ ∧ _))
def EntOk (e : Ent) : Prop := 1 ≤ e.c ∧ e.c ≤ 4611686018427387904 ∧ balOk e.t e.f
def entB (e : Ent) : Bytes := numB 8 e.c.toNat ++ numB 8 e.t.toNat ++ numB 1 (e.f + 1).toNat
def rdE (p : Bytes) : Option Ent :=
 if p.length = 17 ∧ 1 ≤ valB (p.take 8) ∧ valB (p.take 8) ≤ 4611686018427387904 ∧ valB ((p.drop 8).take 8) ≤ 1099511627776 ∧ valB ((p.drop 16).take 1) ≤ 3
 then some ⟨(valB (p.take 8) : Int), (valB ((p.drop 8).take 8) : Int), (valB ((p.drop 16).take 1) : Int) - 1⟩ else none
theorem entB_len (e : Ent) : (entB e).length = 17 := by
 unfold entB
 rw [List.length_append, List.length_append, numB_length, numB_length, numB_length]
theorem rdE_ent {e : Ent} (h : EntOk e) : rdE (entB e) = some e := by
 obtain ⟨h1, h2, h3, h4, h5, h6⟩ := h
 have l8 : ∀ v : Nat, (numB 8 v).length = 8 := fun v => numB_length 8 v
 have e1 : (entB e).take 8 = numB 8 e.c.toNat := by
  unfold entB
  rw [List.append_assoc, List.take_left' (l8 _)]
 have e2 : ((entB e).drop 8).take 8 = numB 8 e.t.toNat := by
  unfold entB
  rw [List.append_assoc, List.drop_left' (l8 _), List.take_left' (l8 _)]
 have e3 : ((entB e).drop 16).take 1 = numB 1 (e.f + 1).toNat := by
  unfold entB
  rw [List.drop_left' (by rw [List.length_append, l8, l8]), List.take_of_length_le (by rw [numB_length]; exact Nat.le_refl _)]
 have v1 : valB (numB 8 e.c.toNat) = e.c.toNat := numB_val 8 _ (by have : 256 ^ 8 = 18446744073709551616 := rfl; omega)
 have v2 : valB (numB 8 e.t.toNat) = e.t.toNat := numB_val 8 _ (by have : 256 ^ 8 = 18446744073709551616 := rfl; omega)
 have v3 : valB (numB 1 (e.f + 1).toNat) = (e.f + 1).toNat := numB_val 1 _ (by have : 256 ^ 1 = 256 := rfl; omega)
 unfold rdE
 rw [e1, e2, e3, v1, v2, v3, if_pos ⟨entB_len e, by omega, by omega, by omega, by omega⟩]
 obtain ⟨c, t, f⟩ := e
 simp only [Option.some.injEq, Ent.mk.injEq]
 have : (⟨c, t, f⟩ : Ent).c = c := rfl
 simp only at h1 h3 h5
 refine ⟨?_, ?_, ?_⟩ <;> omega
theorem rdE_ok {p : Bytes} {e : Ent} (h : rdE p = some e) : p.length = 17 ∧ EntOk e ∧ e = ⟨(valB (p.take 8) : Int), (valB ((p.drop 8).take 8) : Int), (valB ((p.drop 16).take 1) : Int) - 1⟩ := by
 unfold rdE at h
 split at h
 ·rename_i hc
  obtain ⟨h1, h2, h3, h4, h5⟩ := hc
  cases h
  refine ⟨h1, ⟨?_, ?_, ?_, ?_, ?_, ?_⟩, rfl⟩
  ·show (1 : Int) ≤ (valB (p.take 8) : Int)
   omega
  ·show (valB (p.take 8) : Int) ≤ 4611686018427387904
   omega
  ·show (0 : Int) ≤ (valB ((p.drop 8).take 8) : Int)
   omega
  ·show (valB ((p.drop 8).take 8) : Int) ≤ 1099511627776
   omega
  ·show (-1 : Int) ≤ (valB ((p.drop 16).take 1) : Int) - 1
   omega
  ·show (valB ((p.drop 16).take 1) : Int) - 1 ≤ 2
   omega
 ·cases h
def entsP : List Bytes → List Ent
 | [] => []
 | p :: l => match rdE p with
  | some e => e :: entsP l
  | none => []
def lookE (s : Bytes) : List Ent := entsP (scanR s).1
theorem entsP_le : ∀ l : List Bytes, (entsP l).length ≤ l.length
 | [] => Nat.le_refl _
 | p :: l => by
  unfold entsP
  split
  ·have := entsP_le l
   rw [List.length_cons, List.length_cons]
   omega
  ·exact Nat.zero_le _
def fileB (l : List Ent) : Bytes := (l.map fun e => frameB (entB e)).flatten
theorem fileB_app (a b : List Ent) : fileB (a ++ b) = fileB a ++ fileB b := by
 unfold fileB
 rw [List.map_append, List.flatten_append]
theorem fileB_cons (e : Ent) (l : List Ent) : fileB (e :: l) = frameB (entB e) ++ fileB l := rfl
theorem fileB_len : ∀ l : List Ent, (fileB l).length = 29 * l.length
 | [] => rfl
 | e :: l => by
  have := fileB_len l
  rw [fileB_cons, List.length_append, frameB_length, entB_len, this, List.length_cons]
  omega
theorem takeR_nil : (takeR []).2.2 ≠ 0 := by decide
theorem scan_frames {t : Bytes} : ∀ l : List Ent, (scanR (fileB l ++ t)).1 = l.map entB ++ (scanR t).1
 | [] => rfl
 | e :: l => by
  have hp : (entB e).length ≤ 4096 := by rw [entB_len]; omega
  have hk := frame_take (rest := fileB l ++ t) hp
  rw [fileB_cons, List.append_assoc, scanR_ok (by rw [hk]), hk]
  show entB e :: (scanR ((frameB (entB e) ++ (fileB l ++ t)).drop ((entB e).length + 12))).1 = _
  rw [List.drop_left' (frameB_length _), scan_frames l]
  rfl
theorem entsP_app : ∀ (l : List Ent), (∀ e ∈ l, EntOk e) → ∀ k : List Bytes, entsP (l.map entB ++ k) = l ++ entsP k
 | [], _, k => rfl
 | e :: l, h, k => by
  show (match rdE (entB e) with
   | some e => e :: entsP (l.map entB ++ k)
   | none => []) = _
  rw [rdE_ent (h e (List.mem_cons_self ..))]
  show e :: entsP (l.map entB ++ k) = _
  rw [entsP_app l (fun x hx => h x (List.mem_cons_of_mem _ hx))]
  rfl
theorem look_file {l : List Ent} {t : Bytes} (h : ∀ e ∈ l, EntOk e) (ht : (takeR t).2.2 ≠ 0) : lookE (fileB l ++ t) = l := by
 unfold lookE
 rw [scan_frames, scanR_bad ht, entsP_app l h]
 exact List.append_nil _
theorem lookE_len (s : Bytes) : 29 * (lookE s).length ≤ s.length := by
 have key : ∀ (k : Nat) (s : Bytes), s.length ≤ k → 29 * (entsP (scanR s).1).length ≤ s.length := by
  intro k
  induction k with
  | zero =>
   intro s hs
   have := (scanR_at 0 s hs).2
   have h2 := entsP_le (scanR s).1
   omega
  | succ k ih =>
   intro s hs
   by_cases he : (takeR s).2.2 = 0
   ·have hl := takeR_len he
    rw [scanR_ok he]
    show 29 * (entsP ((takeR s).1 :: (scanR (s.drop (takeR s).2.1)).1)).length ≤ _
    unfold entsP
    split
    ·rename_i e hr
     have h17 := (rdE_ok hr).1
     have := ih (s.drop (takeR s).2.1) (by rw [List.length_drop]; omega)
     rw [List.length_drop] at this
     rw [List.length_cons]
     omega
    ·exact Nat.zero_le _
   ·rw [scanR_bad he]
    exact Nat.zero_le _
 exact key s.length s (Nat.le_refl _)
abbrev TBal : Nat := 31
abbrev TEnt : Nat := 89
abbrev TBox : Nat := 92
abbrev TCont : Nat := 85
abbrev TI3 : Nat := 3
structure BoxS where
 m0 : Int
 m1 : Int
 ne : Ent
 file : Int
 br : Int
def boxC (db : Nat) (x : BoxS) : List AV := [.ptr db 0, .int .i64 x.m0, .int .i64 x.m1, .int .i64 x.ne.c, .int .i64 x.ne.t, .int .i64 x.ne.f, .int .i64 x.file, .int .i64 x.br]
def mayB (t f t' f' : Int) : Bool := if t ≠ t' then decide (t > t') else (f' == -1 || f == f')
def placeF (x : BoxS) : Int := if x.ne.c = 0 then 0 else if (if x.file = 0 then x.m0 else x.m1) < 8 then x.file else if x.file = 0 then 1 else 0
def placeN (x : BoxS) : Bool := if x.ne.c = 0 then true else if (if x.file = 0 then x.m0 else x.m1) < 8 then false else true
section
variable {n d xb db : Nat} {h : AHeap} {x : BoxS} {t f t' f' : Int} {p : Bytes} {e : Ent}
theorem check_w : world n (d + 1) 17 [.agg [.int .i64 t, .int .i64 f]] h = some (.ret (.int .i64 (if balOk t f then 0 else 2)), h) := by
 apply Wp.eq
 rw [w_vote_Check]
 refine Wp.gc ?_
 unfold vote_Check
 refine Wp.mbox (Mem.nil [] h) rfl fun h2 M2 => ?_
 have k2 := M2.at0.1
 have A := M2.tch.above
 have fin : ∀ c : Bool, (c = true ↔ ¬ balOk t f) → Wp (ifB c (some (ARes.ret (.int .i64 2), h2)) (some (ARes.ret (.int .i64 0), h2))) fun r h' => Above h h' ∧ r.val.scal = true ∧ r = ARes.ret (.int .i64 (if balOk t f then 0 else 2)) ∧ h = h := fun c hc => by
  cases c with
  | true =>
   rw [if_neg (hc.1 rfl)]
   exact Wp.ift rfl (Wp.ret ⟨A, rfl, rfl, rfl⟩)
  | false =>
   rw [if_pos (Decidable.byContradiction fun hh => nomatch (hc.2 hh))]
   exact Wp.iff rfl (Wp.ret ⟨A, rfl, rfl, rfl⟩)
 unfold balOk at fin
 refine Wp.obind (fldP_ptr _ _ _) (Wp.obind (RowH.cell' k2 (show [AV.int .i64 t, .int .i64 f][0 + 0]? = some (.int .i64 t) from rfl)) (Wp.obind (avInt_int _ _) (Wp.lett (Wp.lettG fun j10 e10 => ?_))))
 by_cases c1 : t < 0
 ·refine Wp.ift (decide_eq_true c1) ?_
  rw [e10]
  refine Wp.lettG fun j15 e15 => Wp.ift rfl ?_
  rw [e15]
  refine Wp.lettG fun j20 e20 => Wp.ift rfl ?_
  rw [e20]
  exact fin true ⟨fun _ hh => by omega, fun _ => rfl⟩
 refine Wp.iff (decide_eq_false c1) (Wp.obind (fldP_ptr _ _ _) (Wp.obind (RowH.cell' k2 (show [AV.int .i64 t, .int .i64 f][0 + 0]? = some (.int .i64 t) from rfl)) (Wp.obind (avInt_int _ _) (Wp.lett ?_))))
 rw [e10]
 refine Wp.lettG fun j15 e15 => ?_
 by_cases c2 : t > 1099511627776
 ·refine Wp.ift (decide_eq_true c2) ?_
  rw [e15]
  refine Wp.lettG fun j20 e20 => Wp.ift rfl ?_
  rw [e20]
  exact fin true ⟨fun _ hh => by omega, fun _ => rfl⟩
 refine Wp.iff (decide_eq_false c2) (Wp.obind (fldP_ptr _ _ _) (Wp.obind (RowH.cell' k2 (show [AV.int .i64 t, .int .i64 f][0 + 1]? = some (.int .i64 f) from rfl)) (Wp.obind (avInt_int _ _) (Wp.lett ?_))))
 rw [e15]
 refine Wp.lettG fun j20 e20 => ?_
 by_cases c3 : f < -1
 ·refine Wp.ift (decide_eq_true c3) ?_
  rw [e20]
  exact fin true ⟨fun _ hh => by omega, fun _ => rfl⟩
 refine Wp.iff (decide_eq_false c3) (Wp.obind (fldP_ptr _ _ _) (Wp.obind (RowH.cell' k2 (show [AV.int .i64 t, .int .i64 f][0 + 1]? = some (.int .i64 f) from rfl)) (Wp.obind (avInt_int _ _) (Wp.lett ?_))))
 rw [e20]
 refine fin _ ?_
 rw [decide_eq_true_eq]
 exact ⟨fun h hh => by omega, fun hh => Decidable.byContradiction fun h => hh ⟨by omega, by omega, by omega, by omega⟩⟩
theorem may_w : world n (d + 1) 56 [.agg [.int .i64 t, .int .i64 f], .agg [.int .i64 t', .int .i64 f']] h = some (.ret (.bool (mayB t f t' f')), h) := by
 apply Wp.eq
 rw [w_vote_mayFollow]
 refine Wp.gc ?_
 unfold vote_mayFollow mayB
 refine Wp.mbox (Mem.nil [] h) rfl fun h2 M2 => Wp.mbox M2 rfl fun h4 M4 => ?_
 have k2 := M4.at1.1
 have k4 := M4.at0.1
 have A := M4.tch.above
 refine Wp.obind (fldP_ptr _ _ _) (Wp.obind (RowH.cell' k2 (show [AV.int .i64 t, .int .i64 f][0 + 0]? = some (.int .i64 t) from rfl)) (Wp.obind (avInt_int _ _) (Wp.obind (fldP_ptr _ _ _) (Wp.obind (RowH.cell' k4 (show [AV.int .i64 t', .int .i64 f'][0 + 0]? = some (.int .i64 t') from rfl)) (Wp.obind (avInt_int _ _) (Wp.lett ?_))))))
 by_cases c1 : t = t'
 ·rw [if_neg (by simpa using c1)]
  refine Wp.iff (bne_f c1) (Wp.obind (fldP_ptr _ _ _) (Wp.obind (RowH.cell' k4 (show [AV.int .i64 t', .int .i64 f'][0 + 1]? = some (.int .i64 f') from rfl)) (Wp.obind (avInt_int _ _) (Wp.lett (Wp.lettG fun j24 e24 => ?_)))))
  by_cases c2 : f' = -1
  ·refine Wp.ift (beq_t c2) ?_
   rw [e24, beq_t c2]
   exact Wp.ret ⟨A, rfl, rfl, rfl⟩
  ·refine Wp.iff (beq_f c2) (Wp.obind (fldP_ptr _ _ _) (Wp.obind (RowH.cell' k2 (show [AV.int .i64 t, .int .i64 f][0 + 1]? = some (.int .i64 f) from rfl)) (Wp.obind (avInt_int _ _) (Wp.obind (fldP_ptr _ _ _) (Wp.obind (RowH.cell' k4 (show [AV.int .i64 t', .int .i64 f'][0 + 1]? = some (.int .i64 f') from rfl)) (Wp.obind (avInt_int _ _) (Wp.lett ?_)))))))
   rw [e24, beq_f c2, Bool.false_or]
   exact Wp.ret ⟨A, rfl, rfl, rfl⟩
 ·rw [if_pos c1]
  refine Wp.ift (bne_t c1) (Wp.obind (fldP_ptr _ _ _) (Wp.obind (RowH.cell' k2 (show [AV.int .i64 t, .int .i64 f][0 + 0]? = some (.int .i64 t) from rfl)) (Wp.obind (avInt_int _ _) (Wp.obind (fldP_ptr _ _ _) (Wp.obind (RowH.cell' k4 (show [AV.int .i64 t', .int .i64 f'][0 + 0]? = some (.int .i64 t') from rfl)) (Wp.obind (avInt_int _ _) (Wp.lett ?_)))))))
  exact Wp.ret ⟨A, rfl, rfl, rfl⟩
theorem eqBox (b : Nat) (h : AHeap) : opBin Try.prog h .eql 25 true (some (.ptr b 0)) (some AV.nilp) = some (.val (.bool false), h) := by kernel_rfl
theorem now_w (k : RowH h xb TBox (boxC db x)) (hb : xb < h.next) : ∃ h', world n (d + 1) 16 [.ptr xb 0] h = some (.ret (.agg [.int .i64 x.ne.t, .int .i64 x.ne.f]), h') ∧ Tch [] h h' := by
 apply Wp.ex
 rw [w_vote_Box_Now]
 unfold vote_Box_Now
 refine Wp.mnew (Mem.nil [] h) fun h2 M2 => Wp.outK (eqBox xb h2) (Wp.obind (avBool_bool _) (Wp.iff rfl ?_))
 have k2 := k.tch M2.tch hb (fun h => nomatch h)
 rw [newP_eq]
 refine Wp.obind (nilC_ptr _ _) (Wp.obind (fldP_ptr _ _ _) (Wp.obind (fldP_ptr _ _ _) (Wp.obind (k2.ld (o := 0 + 3 + 1) (n := 2) (show 0 + 3 + 1 + 2 ≤ 8 by decide)) ?_)))
 refine Wp.sa0 M2 rfl rfl rfl fun h3 M3 => Wp.lr0 M3 rfl (Wp.ret ⟨rfl, M3.tch⟩)
theorem refuses_v (k : RowH h xb TBox (boxC db x)) (hb : xb < h.next) : ∃ h', world n (d + 2) 31 [.ptr xb 0, .agg [.int .i64 t, .int .i64 f]] h = some (.ret (.int .i64 (if x.br ≠ 0 then x.br else if balOk t f then (if mayB t f x.ne.t x.ne.f = true then 0 else 5) else 2)), h') ∧ Tch [] h h' := by
 apply Wp.ex
 rw [w_vote_Box_refuses]
 unfold vote_Box_refuses
 refine Wp.mbox (Mem.nil [] h) rfl fun h2 M2 => Wp.outK (eqBox xb h2) (Wp.obind (avBool_bool _) (Wp.iff rfl ?_))
 have k2 := k.tch M2.tch hb (fun h => nomatch h)
 refine Wp.obind (nilC_ptr _ _) (Wp.obind (fldP_ptr _ _ _) (Wp.obind (RowH.cell' k2 (show (boxC db x)[0 + 7]? = some (.int .i64 x.br) from rfl)) (Wp.obind (avInt_int _ _) (Wp.lett ?_))))
 by_cases c1 : x.br = 0
 ·rw [if_neg (by simpa using c1)]
  refine Wp.iff (bne_f c1) (Wp.lr0 M2 rfl (Wp.callN (check_w (n := n) (d := d)) (Wp.obind (avInt_int _ _) (Wp.lett ?_))))
  by_cases c2 : balOk t f
  ·rw [if_pos c2, if_pos c2]
   refine Wp.iff (bne_f rfl) (Wp.lr0 M2 rfl (Wp.obind (nilC_ptr _ _) (Wp.obind (fldP_ptr _ _ _) (Wp.obind (fldP_ptr _ _ _) (Wp.obind (k2.ld (o := 0 + 3 + 1) (n := 2) (show 0 + 3 + 1 + 2 ≤ 8 by decide)) (Wp.callN (may_w (n := n) (d := d) (t' := x.ne.t) (f' := x.ne.f)) (Wp.obind (avBool_bool _) (Wp.lett ?_))))))))
   cases hm : mayB t f x.ne.t x.ne.f with
   | true =>
    rw [if_pos rfl]
    exact Wp.iff rfl (Wp.ret ⟨rfl, M2.tch⟩)
   | false =>
    rw [if_neg (by decide)]
    exact Wp.ift rfl (Wp.ret ⟨rfl, M2.tch⟩)
  ·rw [if_neg c2, if_neg c2]
   exact Wp.ift (bne_t (by decide)) (Wp.ret ⟨rfl, M2.tch⟩)
 ·rw [if_pos c1]
  refine Wp.ift (bne_t c1) (Wp.obind (nilC_ptr _ _) (Wp.obind (fldP_ptr _ _ _) (Wp.obind (RowH.cell' k2 (show (boxC db x)[0 + 7]? = some (.int .i64 x.br) from rfl)) (Wp.obind (avInt_int _ _) (Wp.ret ⟨rfl, M2.tch⟩)))))
theorem many_at (b : Nat) {z : Int} (hz : z = 0 ∨ z = 1) : idxA 2 1 (.ptr b (0 + 1)) z = some (.ptr b (1 + z.toNat)) ∧ (boxC db x)[1 + z.toNat]? = some (.int .i64 (if z = 0 then x.m0 else x.m1)) := by
 rcases hz with rfl | rfl <;> exact ⟨rfl, rfl⟩
theorem place_w (k : RowH h xb TBox (boxC db x)) (hf : x.file = 0 ∨ x.file = 1) : world n (d + 1) 33 [.ptr xb 0] h = some (.ret (.tup [.int .i64 (placeF x), .bool (placeN x)]), h) := by
 apply Wp.eq
 rw [w_vote_Box_place]
 unfold vote_Box_place placeF placeN
 refine Wp.obind (nilC_ptr _ _) (Wp.obind (fldP_ptr _ _ _) (Wp.obind (fldP_ptr _ _ _) (Wp.obind (RowH.cell' k (show (boxC db x)[0 + 3 + 0]? = some (.int .i64 x.ne.c) from rfl)) (Wp.obind (avInt_int _ _) (Wp.lett ?_)))))
 by_cases c1 : x.ne.c = 0
 ·rw [if_pos c1, if_pos c1]
  exact Wp.ift (beq_t c1) (Wp.ret ⟨rfl, rfl⟩)
 rw [if_neg c1, if_neg c1]
 obtain ⟨i1, r1⟩ := many_at (db := db) (x := x) xb hf
 refine Wp.iff (beq_f c1) (Wp.obind (nilC_ptr _ _) (Wp.obind (fldP_ptr _ _ _) (Wp.obind (RowH.cell' k (show (boxC db x)[0 + 6]? = some (.int .i64 x.file) from rfl)) (Wp.obind (avInt_int _ _) (Wp.obind (nilC_ptr _ _) (Wp.obind (fldP_ptr _ _ _) (Wp.obind i1 (Wp.obind (RowH.cell' k r1) (Wp.obind (avInt_int _ _) (Wp.lett ?_))))))))))
 by_cases c2 : (if x.file = 0 then x.m0 else x.m1) < 8
 ·rw [if_pos c2, if_pos c2]
  refine Wp.ift (decide_eq_true c2) (Wp.obind (nilC_ptr _ _) (Wp.obind (fldP_ptr _ _ _) (Wp.obind (RowH.cell' k (show (boxC db x)[0 + 6]? = some (.int .i64 x.file) from rfl)) (Wp.obind (avInt_int _ _) (Wp.ret ⟨rfl, rfl⟩)))))
 ·rw [if_neg c2, if_neg c2]
  refine Wp.iff (decide_eq_false c2) (Wp.obind (nilC_ptr _ _) (Wp.obind (fldP_ptr _ _ _) (Wp.obind (RowH.cell' k (show (boxC db x)[0 + 6]? = some (.int .i64 x.file) from rfl)) (Wp.obind (avInt_int _ _) (Wp.lett ?_)))))
  by_cases c3 : x.file = 0
  ·rw [if_pos c3]
   exact Wp.ift (beq_t c3) (Wp.ret ⟨rfl, rfl⟩)
  ·rw [if_neg c3]
   exact Wp.iff (beq_f c3) (Wp.ret ⟨rfl, rfl⟩)
theorem eframe_w (he : EntOk e) (hn : 4096 < n) (hx : memB 5 h.ex = false) : world n (d + 5) 32 [.agg (entC e)] h = some (.ret (.tup [strA (frameB (entB e)), .int .i64 0]), h) := by
 obtain ⟨h1, h2, h3, h4, h5, h6⟩ := he
 have hl := entB_len e
 have hp := put_w (n := n) (d := d) (h := h) (p := entB e) hn hx
 rw [if_neg (by omega)] at hp
 obtain ⟨c, hc⟩ : ∃ c : Nat, e.c = (c : Int) := ⟨e.c.toNat, by omega⟩
 obtain ⟨t, ht⟩ : ∃ t : Nat, e.t = (t : Int) := ⟨e.t.toNat, by omega⟩
 obtain ⟨f, hf⟩ : ∃ f : Nat, e.f + 1 = (f : Int) := ⟨(e.f + 1).toNat, by omega⟩
 have he0 : entB e = numB 8 c ++ numB 8 t ++ numB 1 f := by
  unfold entB
  rw [hc, ht, hf, Int.toNat_natCast, Int.toNat_natCast, Int.toNat_natCast]
 apply Wp.eq
 rw [w_vote_entry_frame]
 refine Wp.gc ?_
 unfold vote_entry_frame
 refine Wp.mbox (Mem.nil [] h) rfl fun h2' M2 => ?_
 have k2 := M2.at0.1
 have A := M2.tch.above
 have hx2 : memB 5 h2'.ex = false := by rw [M2.tch.2.1]; exact hx
 have hp2 := put_w (n := n) (d := d) (h := h2') (p := entB e) hn hx2
 rw [if_neg (by omega)] at hp2
 refine Wp.obind (fldP_ptr _ _ _) (Wp.obind (RowH.cell' k2 (show (entC e)[0 + 0]? = some (.int .i64 e.c) from rfl)) (Wp.obind (avInt_int _ _) (Wp.lettu64 (by omega) (by omega) (Wp.obind (fldP_ptr _ _ _) (Wp.obind (fldP_ptr _ _ _) (Wp.obind (RowH.cell' k2 (show (entC e)[0 + 1 + 0]? = some (.int .i64 e.t) from rfl)) (Wp.obind (avInt_int _ _) (Wp.lettu64 (by omega) (by omega) (Wp.obind (fldP_ptr _ _ _) (Wp.obind (fldP_ptr _ _ _) (Wp.obind (RowH.cell' k2 (show (entC e)[0 + 1 + 1]? = some (.int .i64 e.f) from rfl)) (Wp.obind (avInt_int _ _) (Wp.lettw (by omega) (by omega) (Wp.lettu8 (by omega) (by omega) ?_))))))))))))))
 have r1 : reLoad Try.prog h2' TI3 (.ptr h.next (0 + 1 + 1)) (.int .i64 e.f) = true := reLoad_c (by kernel_rfl) (RowH.cell' k2 (show (entC e)[0 + 1 + 1]? = some (.int .i64 e.f) from rfl))
 have r2 : reLoad Try.prog h2' TI3 (.ptr h.next (0 + 1 + 0)) (.int .i64 e.t) = true := reLoad_c (by kernel_rfl) (RowH.cell' k2 (show (entC e)[0 + 1 + 0]? = some (.int .i64 e.t) from rfl))
 rw [hc]
 refine Wp.callN (u64_w (n := n) (d := d + 2) (by omega) (by omega) hx2) (Wp.obind (avStr_str _) (Wp.chk (by rw [r1, r2]; rfl) ?_))
 rw [ht]
 refine Wp.callN (u64_w (n := n) (d := d + 2) (by omega) (by omega) hx2) (Wp.obind (avStr_str _) (Wp.chk (by rw [r1]; rfl) (Wp.obind (addS_val (by rw [numB_length, numB_length]; omega)) ?_)))
 rw [hf]
 refine Wp.callN (u8_w (n := n) (d := d + 2) (by omega) (by omega) hx2) (Wp.obind (avStr_str _) (Wp.obind (addS_val (by rw [List.length_append, numB_length, numB_length, numB_length]; omega)) ?_))
 rw [← he0]
 exact Wp.callN hp2 (Wp.obind (extT_0 _ _) (Wp.obind (avStr_str _) (Wp.obind (extT_1 _ _ _) (Wp.obind (avInt_int _ _) (Wp.ret ⟨A, rfl, rfl, rfl⟩)))))
end
end Go.Proofs.Yteecmjmglmpbpaa
namespace Go.Proofs.Yteecmjmglmpbpaa
open Go.RowKit Abs
theorem rNum_at {s : Bytes} {w p : Nat} {q : Int} (h : p + w ≤ s.length) : rNum s w ⟨p, 0, q⟩ = (valB ((s.drop p).take w), ⟨p + w, 0, q⟩) := by
 unfold rNum
 rw [if_neg (by simp), if_neg (by show ¬ s.length < p + w; omega)]
theorem three_end {p : Bytes} (h : (rEnd p (rNum p 1 (rNum p 8 (rNum p 8 ⟨0, 0, 0⟩).2).2).2).1 = 0) : p.length = 17 := by
 unfold rEnd at h
 split at h
 ·cases h
 ·rename_i hc
  have h : (rNum p 1 (rNum p 8 (rNum p 8 ⟨0, 0, 0⟩).2).2).2.e = 0 := h
  obtain ⟨a1, a2, a3⟩ := rNum_bad h
  obtain ⟨b1, b2, b3⟩ := rNum_bad a1
  obtain ⟨c1, c2, c3⟩ := rNum_bad b1
  have p1 : (rNum p 8 ⟨0, 0, 0⟩).2.p = 8 := by rw [c3]
  have p2 : (rNum p 8 (rNum p 8 ⟨0, 0, 0⟩).2).2.p = 16 := by rw [b3]; show (rNum p 8 ⟨0, 0, 0⟩).2.p + 8 = 16; omega
  have p3 : (rNum p 1 (rNum p 8 (rNum p 8 ⟨0, 0, 0⟩).2).2).2.p = 17 := by rw [a3]; show (rNum p 8 (rNum p 8 ⟨0, 0, 0⟩).2).2.p + 1 = 17; omega
  rw [p3] at hc
  have hlt : ¬ 17 < p.length := fun hl => hc ⟨h, hl⟩
  omega
def zeroE : Ent := ⟨0, 0, 0⟩
section
variable {n d D db y : Nat} {h H : AHeap} {p s : Bytes} {Q : ARes → AHeap → Prop} {v : AV} {e : Ent}
theorem readE_w (hp : p.length ≤ 1000000) (hn : 8 < n) : world n (d + 4) 54 [strA p] h = some (.ret (.tup [.agg (entC ((rdE p).getD zeroE)), .bool (rdE p).isSome]), h) := by
 apply Wp.eq
 rw [w_vote_readEntry]
 refine Wp.gc ?_
 unfold vote_readEntry
 refine Wp.mnew (Mem.nil [] h) fun h2 M2 => ?_
 have l2 := M2.at0.2.1
 obtain ⟨h5, e5, k5, l5, t5⟩ := new_r (n := n) (d := d + 2) p h2
 have n5 := t5.1
 obtain ⟨h8, e8, k8, t8⟩ := u64_r (n := n) (d := d) k5 (Nat.zero_le _) (by omega) hn
 have n8 := t8.1
 obtain ⟨h11, e11, k11, t11⟩ := u64_r (n := n) (d := d) k8 (rNum_ok (Nat.zero_le _)) (by omega) hn
 have n11 := t11.1
 obtain ⟨h14, e14, k14, t14⟩ := u8_r (n := n) (d := d) k11 (rNum_ok (rNum_ok (Nat.zero_le _))) (by omega) hn
 have n14 := t14.1
 obtain ⟨h19, e19, t19⟩ := end_r (n := n) (d := d + 1) k14 (by omega)
 have n19 := t19.1
 have m1 : ∀ {a b : Nat}, a ≠ b → a ∉ [b] := fun h h2 => h (List.mem_singleton.1 h2)
 have kb := M2.at0.1
 have kz := ((((kb.tch t5 l2 (fun h => nomatch h)).tch t8 (by omega) (m1 (by omega))).tch t11 (by omega) (m1 (by omega))).tch t14 (by omega) (m1 (by omega))).tch t19 (by omega) (fun h => nomatch h)
 have T : Tch [] h h19 := ((((M2.tch.trans t5).trans' t8 fun b hb => .inr (by rw [List.mem_singleton.1 hb]; omega)).trans' t11 fun b hb => .inr (by rw [List.mem_singleton.1 hb]; omega)).trans' t14 fun b hb => .inr (by rw [List.mem_singleton.1 hb]; omega)).trans t19
 refine Wp.callN e5 (Wp.callN e8 (Wp.obind (avInt_int _ _) (Wp.callN e11 (Wp.obind (avInt_int _ _) (Wp.callN e14 (Wp.obind (avInt_int _ _) (Wp.callN e19 (Wp.obind (avAgg_agg _) (Wp.obind (show partF 0 _ = some (AV.int .i64 _) from rfl) (Wp.obind (avInt_int _ _) (Wp.lett (Wp.lettG fun j23 e23 => ?_))))))))))))
 have bad : rdE p = none → ∀ j35 : Bool → AHeap → R, j35 = (fun t35 h_34 => ifB t35 (Abs.obind (stRow h_34 3 ([.int .i64 0, .int .i64 0, .int .i64 0] : List AV) (newP h)) fun h_38 => Abs.obind (ldRow h_38 3 (newP h)) fun w2 => some (ARes.ret (.tup [.agg w2, .bool false]), h_38)) (Abs.lett (IntKind.i64.wrap ((rNum p 8 ⟨0, 0, 0⟩).1 : Int)) fun t38 => Abs.lett (IntKind.i64.wrap ((rNum p 8 (rNum p 8 ⟨0, 0, 0⟩).2).1 : Int)) fun t40 => Abs.lett (IntKind.i64.wrap ((rNum p 1 (rNum p 8 (rNum p 8 ⟨0, 0, 0⟩).2).2).1 : Int)) fun t42 => Abs.lett (IntKind.i64.wrap (t42 - 1)) fun t43 => Abs.obind (bldS Try.prog TEnt [(0, .int .i64 t38), (1, .agg ([.int .i64 t40, .int .i64 t43] : List AV))]) fun t45 => Abs.obind (stRow h_34 3 t45 (newP h)) fun h_47 => Abs.obind (ldRow h_47 3 (newP h)) fun w2_50 => some (ARes.ret (.tup [.agg w2_50, .bool true]), h_47))) →
   Wp (j35 true h19) fun r h' => Above h h' ∧ r.val.scal = true ∧ r = ARes.ret (.tup [.agg (entC ((rdE p).getD zeroE)), .bool (rdE p).isSome]) ∧ h = h := fun hr j35 e35 => by
  rw [e35, hr]
  refine Wp.ift rfl ?_
  rw [newP_eq]
  refine Wp.stAll kz rfl rfl rfl fun h20 k20 t20 n20 => Wp.obind (RowH.ldAll k20 rfl) (Wp.ret ⟨(T.trans' t20 fun b hb => .inr (by rw [List.mem_singleton.1 hb]; exact Nat.le_refl _)).above, rfl, rfl, rfl⟩)
 by_cases hE : (rEnd p (rNum p 1 (rNum p 8 (rNum p 8 ⟨0, 0, 0⟩).2).2).2).1 = 0
 ·have h17 := three_end hE
  have r1 := rNum_at (s := p) (w := 8) (p := 0) (q := 0) (by omega)
  have r2 := rNum_at (s := p) (w := 8) (p := 0 + 8) (q := 0) (by omega)
  have r3 := rNum_at (s := p) (w := 1) (p := 0 + 8 + 8) (q := 0) (by omega)
  have v1 : (rNum p 8 ⟨0, 0, 0⟩).1 = valB (p.take 8) := by rw [r1]; rfl
  have v2 : (rNum p 8 (rNum p 8 ⟨0, 0, 0⟩).2).1 = valB ((p.drop 8).take 8) := by rw [r1]; show (rNum p 8 ⟨0 + 8, 0, 0⟩).1 = _; rw [r2]
  have v3 : (rNum p 1 (rNum p 8 (rNum p 8 ⟨0, 0, 0⟩).2).2).1 = valB ((p.drop 16).take 1) := by rw [r1]; show (rNum p 1 (rNum p 8 ⟨0 + 8, 0, 0⟩).2).1 = _; rw [r2]; show (rNum p 1 ⟨0 + 8 + 8, 0, 0⟩).1 = _; rw [r3]
  rw [v1, v2, v3] at e23 bad
  rw [v1]
  have b3 : valB ((p.drop 16).take 1) < 256 := by
   have := valB_lt ((p.drop 16).take 1)
   rw [List.length_take, List.length_drop, show min 1 (p.length - 16) = 1 by omega] at this
   exact this
  generalize hc1 : valB (p.take 8) = x1 at *
  generalize hc2 : valB ((p.drop 8).take 8) = x2 at *
  generalize hc3 : valB ((p.drop 16).take 1) = x3 at *
  have hrd : ∀ c, rdE p = c → rdE p = if p.length = 17 ∧ 1 ≤ x1 ∧ x1 ≤ 4611686018427387904 ∧ x2 ≤ 1099511627776 ∧ x3 ≤ 3 then some ⟨(x1 : Int), (x2 : Int), (x3 : Int) - 1⟩ else none := fun c _ => by
   unfold rdE
   rw [hc1, hc2, hc3]
  have hrd := hrd _ rfl
  refine Wp.iff (bne_f hE) (Wp.lett ?_)
  rw [e23]
  refine Wp.lettG fun j27 e27 => ?_
  by_cases c1 : x1 < 1
  ·refine Wp.ift (by rw [decide_eq_true_eq]; omega) ?_
   rw [e27]
   refine Wp.lettG fun j31 e31 => Wp.ift rfl ?_
   rw [e31]
   refine Wp.lettG fun j35 e35 => Wp.ift rfl (bad (by rw [hrd, if_neg (by omega)]) j35 e35)
  refine Wp.iff (by rw [decide_eq_false_iff_not]; omega) (Wp.lett ?_)
  rw [e27]
  refine Wp.lettG fun j31 e31 => ?_
  by_cases c2 : x1 > 4611686018427387904
  ·refine Wp.ift (by rw [decide_eq_true_eq]; omega) ?_
   rw [e31]
   refine Wp.lettG fun j35 e35 => Wp.ift rfl (bad (by rw [hrd, if_neg (by omega)]) j35 e35)
  refine Wp.iff (by rw [decide_eq_false_iff_not]; omega) (Wp.lett ?_)
  rw [e31]
  refine Wp.lettG fun j35 e35 => ?_
  by_cases c3 : x2 > 1099511627776
  ·exact Wp.ift (by rw [decide_eq_true_eq]; omega) (bad (by rw [hrd, if_neg (by omega)]) j35 e35)
  refine Wp.iff (by rw [decide_eq_false_iff_not]; omega) (Wp.lett ?_)
  by_cases c4 : x3 > 3
  ·rw [decide_eq_true (show (x3 : Int) > 3 by omega)]
   exact bad (by rw [hrd, if_neg (by omega)]) j35 e35
  rw [decide_eq_false (show ¬ (x3 : Int) > 3 by omega), e35, hrd, if_pos ⟨h17, by omega, by omega, by omega, by omega⟩]
  refine Wp.iff rfl (Wp.lettw (by omega) (by omega) (Wp.lettw (by omega) (by omega) (Wp.lettw (by omega) (by omega) (Wp.lettw (by omega) (by omega) ?_))))
  refine Wp.obind (a := [.int .i64 (x1 : Int), .int .i64 (x2 : Int), .int .i64 ((x3 : Int) - 1)]) (by kernel_rfl) ?_
  rw [newP_eq]
  refine Wp.stAll kz rfl rfl rfl fun h20 k20 t20 n20 => Wp.obind (RowH.ldAll k20 rfl) (Wp.ret ⟨(T.trans' t20 fun b hb => .inr (by rw [List.mem_singleton.1 hb]; exact Nat.le_refl _)).above, rfl, rfl, rfl⟩)
 ·have hr : rdE p = none := by
   unfold rdE
   rw [if_neg]
   rintro ⟨h17, _⟩
   refine hE ?_
   have r1 := rNum_at (s := p) (w := 8) (p := 0) (q := 0) (by omega)
   have r2 := rNum_at (s := p) (w := 8) (p := 0 + 8) (q := 0) (by omega)
   have r3 := rNum_at (s := p) (w := 1) (p := 0 + 8 + 8) (q := 0) (by omega)
   rw [r1]
   show (rEnd p (rNum p 1 (rNum p 8 ⟨0 + 8, 0, 0⟩).2).2).1 = 0
   rw [r2]
   show (rEnd p (rNum p 1 ⟨0 + 8 + 8, 0, 0⟩).2).1 = 0
   rw [r3]
   unfold rEnd
   rw [if_neg (fun hh => by have : 0 + 8 + 8 + 1 < p.length := hh.2; omega)]
  refine Wp.ift (bne_t hE) ?_
  rw [e23]
  refine Wp.lettG fun j27 e27 => Wp.ift rfl ?_
  rw [e27]
  refine Wp.lettG fun j31 e31 => Wp.ift rfl ?_
  rw [e31]
  exact Wp.lettG fun j35 e35 => Wp.ift rfl (bad hr j35 e35)
theorem fitEnt : fitB Try.prog TEnt 24 = true := by kernel_rfl
theorem bldEnt (h : AHeap) (a b c : Int) : bldSl Try.prog h 83 1 [(0, .agg [.int .i64 a, .int .i64 b, .int .i64 c])] = outNewS h TEnt [.int .i64 a, .int .i64 b, .int .i64 c] 1 3 := by kernel_rfl
abbrev entR (l : List Ent) : List (List AV) := l.map entC
theorem Sli.ent {lo : Nat} {l : List Ent} (k : Sli TEnt 3 lo H v (entR l)) (hlo : lo ≤ H.next) (hx : memB TEnt H.ex = false) (hl : l.length < 40000000) {K : AV → AHeap → R} (hk : ∀ v' H', Sli TEnt 3 lo H' v' (entR (l ++ [e])) → Ab lo H H' → Wp (K v' H') Q) :
  Wp (Abs.outK (bldSl Try.prog H 83 1 [(0, .agg (entC e))]) fun v12 h_30 => Abs.outK (opAppend Try.prog h_30 83 83 v v12) K) Q := by
 refine Wp.mnews (Mem.nil [] H) (bldEnt H _ _ _) rfl hx fun h2 M2 => ?_
 have t2 := M2.tch
 have k2 := k.tch t2 (fun _ h => nomatch h)
 have kr := M2.at0.1
 have hf : firstA h2 3 1 (.sl H.next 0 1 3) = some (entC e) := by
  rw [firstA_of_row (Nat.le_refl _)]
  exact kr.part (o := 0) (n := 3) (Nat.le_refl _)
 obtain ⟨v', h', e', k', a'⟩ := k2.push (P := Try.prog) (t := 83) (u := 83) (B := 24) (by kernel_rfl) (by kernel_rfl) (by kernel_rfl) fitEnt (by rw [t2.2.1]; exact hx) (by have := t2.1; omega) rfl hf rfl rfl (by rw [List.length_map]; omega) (by rw [List.length_map]; omega)
 have e3 : entR l ++ [entC e] = entR (l ++ [e]) := by
  unfold entR
  rw [List.map_append]
  rfl
 rw [e3] at k'
 exact Wp.outK e' (hk v' h' k' ((t2.above.ab hlo).trans a'))
theorem Sli.onev {e sz lo : Nat} {rows : List (List AV)} (k : Sli e sz lo H v rows) : v.one = true ∧ AV.cells v = [v] := by
 rcases k.2 with ⟨_, rfl⟩ | ⟨c, _, rfl, _⟩ <;> exact ⟨rfl, rfl⟩
theorem look_round {cb lo i : Nat} {g sz : Int} {l : List Ent} {t0 : T AV} {Dm : Nat} (hrec : H.get y = some (recQ .ready .none (vote_look_R0 n).N (vote_look_R0 n).c t0 Dm)) (hy : y < lo) (hlo : lo ≤ H.next)
  (kc : RowH H cb TCont [v, .int .i64 g, .int .i64 sz]) (hcb : cb < lo) (k : Sli TEnt 3 lo H v (entR l)) (hx : H.ex = []) (hl : l.length < 40000000) (hp : p.length ≤ 4096) (hi : i < 2000000000) (hn : 8 < n)
  (hg : ((putPs (vote_look_R0 n).N (Code.rgp (vote_look_R0 n).c).toList [.int .i64 (i : Int), strA p] t0).bind fun t => slotsC t (vote_look_R0 n).sa) = some [.ptr cb 0, .int .i64 (i : Int), strA p]) :
  ∃ H' j v' g', wL n (D + 4) (d + 2) true y [.int .i64 (i : Int), strA p] H = some (.ret (.bool (rdE p).isSome), H') ∧ RowH H' cb TCont [v', .int .i64 g', .int .i64 sz] ∧ Sli TEnt 3 lo H' v' (entR (match rdE p with | some e => l ++ [e] | none => l)) ∧ H'.get y = some (recQ (stZ j) j (vote_look_R0 n).N (vote_look_R0 n).c t0 Dm) ∧ H.next ≤ H'.next ∧ H'.ex = H.ex ∧ (∀ b, b < lo → b ≠ cb → b ≠ y → H'.get b = H.get b) ∧ (rdE p ≠ none → j = .none ∧ g' = ((i + (p.length + 12) : Nat) : Int)) ∧ (rdE p = none → j = .exit 0 ∧ g' = g) := by
 have ncb := recS_ne kc hrec
 have ll := lenS_nat p
 have key := round_W (both := wL n (D + 4) (d + 1)) (sites := wLS n) (G := fun z H' => (jumpZ z).isNone = (rdE p).isSome ∧ ∃ v' g', RowH H' cb TCont [v', .int .i64 g', .int .i64 sz] ∧ Sli TEnt 3 lo H' v' (entR (match rdE p with | some e => l ++ [e] | none => l)) ∧ H'.get y = some (recQ (stZ (jumpZ z)) (jumpZ z) (vote_look_R0 n).N (vote_look_R0 n).c t0 Dm) ∧ H.next ≤ H'.next ∧ H'.ex = H.ex ∧ (∀ b, b < lo → b ≠ cb → b ≠ y → H'.get b = H.get b) ∧ (rdE p ≠ none → jumpZ z = .none ∧ g' = ((i + (p.length + 12) : Nat) : Int)) ∧ (rdE p = none → jumpZ z = .exit 0 ∧ g' = g)) hrec (fun st jj => wLS_vote_look_R0 n st jj t0 Dm) hg ?_
 ·obtain ⟨z, H', e, hz, v', g', k1⟩ := key
  rw [wL_r]
  rw [hz] at e
  exact ⟨H', jumpZ z, v', g', e, k1⟩
 ·show Wp (vote_look_R0A_fn (wL n (D + 4) (d + 1)) n [.ptr cb 0, .int .i64 (i : Int), strA p] H) _
  rw [vote_look_R0A_fn_eq]
  unfold vote_look_R0A
  refine Wp.ret ⟨_, rfl, rfl, by kernel_rfl, ?_⟩
  have tp : ∀ (G : AHeap) (o : AObj), Tch [y] G (G.put y o) := fun G o => Tch.put (.inl (List.mem_singleton.2 rfl)) _
  have m1 : ∀ {a b : Nat}, a ≠ b → a ∉ [b] := fun h h2 => h (List.mem_singleton.1 h2)
  obtain ⟨H1, hH1⟩ : ∃ H1, H1 = H.put y (recQ .busy .none (vote_look_R0 n).N (vote_look_R0 n).c t0 Dm) := ⟨_, rfl⟩
  have t1 : Tch [y] H H1 := by rw [hH1]; exact tp H _
  have g1 : H1.get y = some (recQ .busy .none (vote_look_R0 n).N (vote_look_R0 n).c t0 Dm) := by rw [hH1]; exact get_put_same _ _
  have n1 : H1.next = H.next := by rw [hH1]; rfl
  have x1 : H1.ex = [] := by rw [hH1]; exact hx
  have o1 : ∀ b, b ≠ y → H1.get b = H.get b := fun b hb => by rw [hH1]; exact get_put_other _ (fun h => hb h.symm)
  have kc1 := kc.same (o1 _ ncb)
  have k1 := k.tch t1 (fun b hb => by rw [List.mem_singleton.1 hb]; exact hy)
  rw [← hH1]
  show Wp (vote_look_R0B_fn (wL n (D + 4) (d + 1)) n [.ptr cb 0, .int .i64 (i : Int), strA p] H1) _
  rw [vote_look_R0B_fn_eq]
  unfold vote_look_R0B
  refine Wp.callN ((wL_b 54).trans (readE_w (n := n) (d := D) (by omega) hn)) (Wp.obind (extT_0 _ _) (Wp.obind (avAgg_agg _) (Wp.obind (extT_1 _ _ _) (Wp.obind (avBool_bool _) (Wp.mnew (Mem.nil [] H1) fun h2 M2 => ?_)))))
  rw [newP_eq]
  refine Wp.sa0 M2 rfl rfl rfl fun h3 M3 => Wp.lett ?_
  have t3 := M3.tch
  have n3 := t3.1
  have kc3 := kc1.tch t3 (by omega) (fun h => nomatch h)
  have k3 := k1.tch t3 (fun _ h => nomatch h)
  have g3 : h3.get y = some (recQ .busy .none (vote_look_R0 n).N (vote_look_R0 n).c t0 Dm) := by rw [t3.2.2 y (by omega) (fun h => nomatch h)]; exact g1
  cases hr : rdE p with
  | none =>
   refine Wp.ift rfl (Wp.ret ⟨2, rfl, g3, rfl, v, g, kc3.tch (tp _ _) (by omega) (m1 ncb), k3.tch (tp _ _) (fun b hb => by rw [List.mem_singleton.1 hb]; exact hy), get_put_same _ _, ?_, ?_, ?_, fun h => absurd rfl h, fun _ => ⟨rfl, rfl⟩⟩)
   ·show H.next ≤ h3.next
    omega
   ·show h3.ex = H.ex
    rw [t3.2.1, x1, hx]
   ·intro b hb h1 h2
    rw [get_put_other _ (fun h => h2 h.symm), t3.2.2 b (by omega) (fun h => nomatch h), o1 b h2]
  | some e =>
   have M3' : Mem [] H1 h3 [(H1.next, TEnt, entC e)] := by
    rw [hr] at M3
    exact M3
   refine Wp.iff rfl (Wp.obind (fldP_ptr _ _ _) (Wp.obind (RowH.cell' kc3 rfl) (Wp.lr0 M3' rfl (Sli.ent k3 (by omega) (by rw [t3.2.1, x1]; rfl) hl fun v4 h4 k4 a4 => Wp.obind (fldP_ptr _ _ _) ?_))))
   have a4n := a4.next
   have kc4 := kc3.same (a4.get cb hcb)
   rw [(Sli.onev k4).2]
   refine Wp.st1 kc4 (show 0 + 0 < 3 by decide) (Sli.onev k4).1 fun h5 kc5 t5 n5 => Wp.lettw (by omega) (by omega) (Wp.lettw (by omega) (by omega) (Wp.obind (fldP_ptr _ _ _) ?_))
   refine Wp.st1 kc5 (show 0 + 1 < 3 by decide) rfl fun h6 kc6 t6 n6 => Wp.ret ⟨0, rfl, ?_, rfl, v4, ((i + (p.length + 12) : Nat) : Int), ?_, ?_, get_put_same _ _, ?_, ?_, ?_, fun _ => ⟨rfl, rfl⟩, fun h => nomatch h⟩
   ·rw [t6.2.2 y (by omega) (m1 (fun h => ncb h.symm)), t5.2.2 y (by omega) (m1 (fun h => ncb h.symm)), a4.get y hy]
    exact g3
   ·have := kc6.tch (tp _ (recQ (stZ (jumpZ 0)) (jumpZ 0) (vote_look_R0 n).N (vote_look_R0 n).c t0 Dm)) (by omega) (m1 ncb)
    rw [show (i : Int) + lenS p + 12 = ((i + (p.length + 12) : Nat) : Int) by omega] at this
    exact this
   ·exact ((k4.tch t5 fun b hb => by rw [List.mem_singleton.1 hb]; exact hcb).tch t6 fun b hb => by rw [List.mem_singleton.1 hb]; exact hcb).tch (tp _ _) fun b hb => by rw [List.mem_singleton.1 hb]; exact hy
   ·show H.next ≤ h6.next
    omega
   ·show h6.ex = H.ex
    rw [t6.2.1, t5.2.1, a4.ex, t3.2.1, x1, hx]
   ·intro b hb h1 h2
    rw [get_put_other _ (fun h => h2 h.symm), t6.2.2 b (by omega) (m1 h1), t5.2.2 b (by omega) (m1 h1), a4.get b hb, t3.2.2 b (by omega) (fun h => nomatch h), o1 b h2]
end
theorem ent_step {s : Bytes} {i : Nat} {acc : List Ent} (he : (takeR (s.drop i)).2.2 = 0) (h1 : acc ++ lookE (s.drop i) = lookE s) : match rdE (takeR (s.drop i)).1 with
  | some e => (acc ++ [e]) ++ lookE (s.drop (i + (takeR (s.drop i)).2.1)) = lookE s
  | none => acc = lookE s := by
 unfold lookE at h1 ⊢
 rw [scanR_ok he, List.drop_drop] at h1
 have h1 : acc ++ entsP ((takeR (s.drop i)).1 :: (scanR (s.drop (i + (takeR (s.drop i)).2.1))).1) = entsP (scanR s).1 := h1
 cases hr : rdE (takeR (s.drop i)).1 with
 | none =>
  have e0 : entsP ((takeR (s.drop i)).1 :: (scanR (s.drop (i + (takeR (s.drop i)).2.1))).1) = [] := by
   unfold entsP
   rw [hr]
  rw [e0, List.append_nil] at h1
  exact h1
 | some e =>
  have e0 : entsP ((takeR (s.drop i)).1 :: (scanR (s.drop (i + (takeR (s.drop i)).2.1))).1) = e :: entsP (scanR (s.drop (i + (takeR (s.drop i)).2.1))).1 := by
   show (match rdE (takeR (s.drop i)).1 with
    | some e => e :: entsP (scanR (s.drop (i + (takeR (s.drop i)).2.1))).1
    | none => []) = _
   rw [hr]
  rw [e0] at h1
  show (acc ++ [e]) ++ _ = _
  rw [List.append_assoc]
  exact h1
theorem ent_end {s : Bytes} {i : Nat} {acc : List Ent} (he : (takeR (s.drop i)).2.2 ≠ 0) (h1 : acc ++ lookE (s.drop i) = lookE s) : acc = lookE s := by
 unfold lookE at h1
 rw [scanR_bad he] at h1
 rw [← List.append_nil acc]
 exact h1
section
variable {lo : Nat → Prop} {n d D db B : Nat} {H : AHeap} {s : DS}
set_option maxHeartbeats 1000000 in
theorem look_w {f : Int} (K : At lo H db s B) (hu : (readS s f).length < 500000000) (hn : 1000000000 < n) : ∃ H' v, wL n (D + 5) (d + 5) false 29 [.ptr db 0, .int .i64 f] H = some (.ret (.agg [v, .int .i64 ((29 * (lookE (readS s f)).length : Nat) : Int), .int .i64 ((readS s f).length : Int)]), H') ∧ Sli TEnt 3 H.next H' v (entR (lookE (readS s f))) ∧ Tch [] H H' := by
 suffices hK : Wp (vote_look (wL n (D + 5) (d + 4)) n (.ptr db 0) f H) fun r H' => ∃ v, r = .ret (.agg [v, .int .i64 ((29 * (lookE (readS s f)).length : Nat) : Int), .int .i64 ((readS s f).length : Int)]) ∧ Sli TEnt 3 H.next H' v (entR (lookE (readS s f))) ∧ Tch [] H H' by
  obtain ⟨_, H', e, v, rfl, k⟩ := hK
  exact ⟨H', v, wL_vote_look n (D + 5) (d + 4) _ _ e, k⟩
 have hx := K.ex
 unfold vote_look
 refine Wp.mnew (Mem.nil [] H) fun h2 M2 => ?_
 have l2 := M2.at0.2.1
 have k2 := M2.at0.1
 have t2 := M2.tch
 have K2 := K.tch t2 (fun _ h => nomatch h)
 rw [newP_eq H]
 refine Wp.callN ((wL_b 52).trans (read_a (n := n) (d := D + 2) (z := f) K2)) (Wp.obind (extT_0 _ _) (Wp.obind (avStr_str _) (Wp.obind (extT_1 _ _ _) (Wp.obind (avInt_int _ _) (Wp.lett ?_)))))
 by_cases hr : readE s f = 0
 case neg =>
  have hz : readS s f = [] := by
   unfold readE at hr
   unfold readS
   split
   ·rename_i h0
    rw [if_pos h0] at hr
    rw [if_neg (fun h1 => hr (if_pos h1))]
   ·rfl
  rw [hz]
  refine Wp.ift (bne_t hr) (Wp.stAll k2 rfl rfl rfl fun h3 k3 t3 n3 => Wp.marks0 (Wp.obind (RowH.ldAll k3 rfl) (Wp.ret ⟨.nsl, rfl, Sli.nil _ _ _ _, t2.trans' t3 fun b hb => .inr (by rw [List.mem_singleton.1 hb]; exact Nat.le_refl _)⟩)))
 obtain ⟨u, hu0⟩ : ∃ u, readS s f = u := ⟨_, rfl⟩
 rw [hu0] at hu ⊢
 have ll := lenS_nat u
 refine Wp.iff (bne_f hr) (Wp.mnew M2 fun h5 M5 => ?_)
 rw [newP_eq h2]
 refine Wp.sa0 M5 rfl rfl rfl fun h6 M6 => ?_
 have k4 := M6.at1.1
 have kc6 := M6.at0.1
 have lc := M6.at0.2.1
 have t6 := M6.tch
 have n6 := t6.1
 obtain ⟨h8, e8, kx8, lx8, t8⟩ := fall_w (n := n) (d := D + 4) u h6
 have n8 := t8.1
 have k48 := k4.tch t8 (by omega) (fun h => nomatch h)
 have kc8 := kc6.tch t8 (by omega) (fun h => nomatch h)
 refine Wp.callN ((wL_b 53).trans e8) (Wp.lettG fun k29 e29 => ?_)
 obtain ⟨t0, ht0⟩ : ∃ t0, t0 = Fr.tree [(4, .ptr H.next 0), (7, .ptr h2.next 0), (25, AV.fn 68 [] [.ptr h6.next 0])] := ⟨_, rfl⟩
 have hg : ∀ (i : Nat) (q : Bytes), ((putPs (vote_look_R0 n).N (Code.rgp (vote_look_R0 n).c).toList [.int .i64 (i : Int), strA q] t0).bind fun t => slotsC t (vote_look_R0 n).sa) = some [.ptr h2.next 0, .int .i64 (i : Int), strA q] := fun i q => by
  rw [ht0]
  kernel_rfl
 rw [← ht0]
 have t1 := rngH_tch [] (vote_look_R0 n).N (vote_look_R0 n).c t0 h8
 have n1 := rngH_next (vote_look_R0 n).N (vote_look_R0 n).c t0 h8
 have r1 := rngH_rec (vote_look_R0 n).N (vote_look_R0 n).c t0 h8
 have d1 := rngH_mark (vote_look_R0 n).N (vote_look_R0 n).c t0 h8
 have x1 : (rngH (vote_look_R0 n).N (vote_look_R0 n).c t0 h8).ex = [] := by rw [t1.2.1, t8.2.1, t6.2.1, hx]
 obtain ⟨Hs, hHs⟩ : ∃ Hs, Hs = rngH (vote_look_R0 n).N (vote_look_R0 n).c t0 h8 := ⟨_, rfl⟩
 rw [← hHs] at t1 n1 r1 d1 x1
 have k41 := k48.tch t1 (by omega) (fun h => nomatch h)
 have kc1 := kc8.tch t1 (by omega) (fun h => nomatch h)
 have kx1 := kx8.tch t1 lx8 (fun h => nomatch h)
 have hlu := lookE_len u
 obtain ⟨H', e, hq⟩ := fall_iter (n := n) (D := D) (d := d + 2) (H := Hs) (y := h8.next + 1) (bx := h6.next) (s := u)
  (Inv := fun i H2 => ∃ acc v2, RowH H2 h2.next TCont [v2, .int .i64 ((29 * acc.length : Nat) : Int), .int .i64 (u.length : Int)] ∧ i = 29 * acc.length ∧ Sli TEnt 3 Hs.next H2 v2 (entR acc) ∧ H2.get (h8.next + 1) = some (recQ .ready .none (vote_look_R0 n).N (vote_look_R0 n).c t0 h8.next) ∧ Hs.next ≤ H2.next ∧ H2.ex = [] ∧ (∀ b, b < Hs.next → b ≠ h2.next → b ≠ h8.next + 1 → H2.get b = Hs.get b) ∧ acc ++ lookE (u.drop i) = lookE u)
  (Fin := fun i H2 => ∃ acc v2, RowH H2 h2.next TCont [v2, .int .i64 ((29 * acc.length : Nat) : Int), .int .i64 (u.length : Int)] ∧ Sli TEnt 3 Hs.next H2 v2 (entR acc) ∧ H2.get (h8.next + 1) = some (recQ .done (.exit 0) (vote_look_R0 n).N (vote_look_R0 n).c t0 h8.next) ∧ Hs.next ≤ H2.next ∧ H2.ex = [] ∧ (∀ b, b < Hs.next → b ≠ h2.next → b ≠ h8.next + 1 → H2.get b = Hs.get b) ∧ acc = lookE u) (by omega) hn
  (fun i H2 I => by
   obtain ⟨acc, v2, _, _, _, _, _, _, k6, _⟩ := I
   exact kx1.same (k6 _ (by omega) (by omega) (by omega)))
  (fun i H2 hi he I => by
   obtain ⟨acc, v2, a1, a2, a3, a4, a5, a6, a7, a8⟩ := I
   have hl := takeR_len he
   rw [List.length_drop] at hl
   have hacc : 29 * acc.length ≤ u.length := by
    have := congrArg List.length a8
    rw [List.length_append] at this
    omega
   have hst := ent_step he a8
   obtain ⟨H3, j, v3, g', e3, b1, b2, b3, b4, b5, b6, b7, b8⟩ := look_round (n := n) (D := D + 1) (d := d + 1) (y := h8.next + 1) (p := (takeR (u.drop i)).1) a4 (by omega) a5 a1 (by omega) a3 a6 (by omega) (by omega) (by omega) (by omega) (hg i _)
   refine ⟨(rdE (takeR (u.drop i)).1).isSome, H3, ?_, fun hb => ?_, fun hb => ?_⟩
   ·rw [dynB_yld a4 (by kernel_rfl)]
    exact e3
   ·cases hrd : rdE (takeR (u.drop i)).1 with
    | none => rw [hrd] at hb; cases hb
    | some e =>
     rw [hrd] at b2 hst
     obtain ⟨hj, hg'⟩ := b7 (by rw [hrd]; exact fun h => nomatch h)
     subst hj hg'
     have h17 := (rdE_ok hrd).1
     refine ⟨acc ++ [e], v3, ?_, ?_, b2, b3, by omega, by rw [b5, a6], fun b g1 g2 g3 => (b6 b g1 g2 g3).trans (a7 b g1 g2 g3), hst⟩
     ·rw [show 29 * (acc ++ [e]).length = i + ((takeR (u.drop i)).1.length + 12) by rw [List.length_append, List.length_singleton]; omega]
      exact b1
     ·rw [List.length_append, List.length_singleton]
      omega
   ·cases hrd : rdE (takeR (u.drop i)).1 with
    | some e => rw [hrd] at hb; cases hb
    | none =>
     rw [hrd] at b2 hst
     obtain ⟨hj, hg'⟩ := b8 hrd
     subst hj hg'
     exact ⟨acc, v3, b1, b2, b3, by omega, by rw [b5, a6], fun b g1 g2 g3 => (b6 b g1 g2 g3).trans (a7 b g1 g2 g3), hst⟩)
  ⟨[], .nsl, kc1, rfl, Sli.nil _ _ _ _, r1, Nat.le_refl _, x1, fun _ _ _ _ => rfl, rfl⟩
 rw [hHs] at e
 have m1 : ∀ {a b : Nat}, a ≠ b → a ∉ [b] := fun h h2 => h (List.mem_singleton.1 h2)
 have fin : ∀ (st : LoopState) (j : AJump) (v2 : AV), RowH H' h2.next TCont [v2, .int .i64 ((29 * (lookE u).length : Nat) : Int), .int .i64 (u.length : Int)] → Sli TEnt 3 Hs.next H' v2 (entR (lookE u)) → Hs.next ≤ H'.next → H'.ex = [] → (∀ b, b < Hs.next → b ≠ h2.next → b ≠ h8.next + 1 → H'.get b = Hs.get b) →
   Wp (k29 [dmark h8.next] (H'.put (h8.next + 1) (recQ st j (vote_look_R0 n).N (vote_look_R0 n).c t0 h8.next))) fun r H' => ∃ v, r = .ret (.agg [v, .int .i64 ((29 * (lookE u).length : Nat) : Int), .int .i64 (u.length : Int)]) ∧ Sli TEnt 3 H.next H' v (entR (lookE u)) ∧ Tch [] H H' := fun st j v2 a1 a3 a5 a6 a7 => by
  have tp : ∀ (G : AHeap) (b : Nat) (o : AObj), Tch [b] G (G.put b o) := fun G b o => Tch.put (.inl (List.mem_singleton.2 rfl)) _
  have t9 := tp H' (h8.next + 1) (recQ st j (vote_look_R0 n).N (vote_look_R0 n).c t0 h8.next)
  have kc9 := a1.tch t9 (by omega) (m1 (by omega))
  have k9 := a3.tch t9 (fun b hb => by rw [List.mem_singleton.1 hb]; omega)
  have k49 : RowH (H'.put (h8.next + 1) (recQ st j (vote_look_R0 n).N (vote_look_R0 n).c t0 h8.next)) H.next TCont [.nsl, .int .i64 0, .int .i64 0] := (k41.same (a7 _ (by omega) (by omega) (by omega))).tch t9 (by omega) (m1 (by omega))
  have hv1 := Sli.onev a3
  rw [e29]
  refine Wp.obind (RowH.ldAll kc9 rfl) (Wp.stAll k49 rfl rfl (by rw [List.all_cons, hv1.1]; rfl) fun h10 k10 t10 n10 => ?_)
  have n10' : h10.next = H'.next := n10
  have hm : h10.get h8.next = some (.obj .dfr) := by
   rw [t10.2.2 _ (by show h8.next < H'.next; omega) (m1 (by omega)), get_put_other _ (by omega), a7 _ (by omega) (by omega) (by omega)]
   exact d1
  refine Wp.marks1 hm (Wp.marks0 ?_)
  have t12 := tp h10 h8.next (.obj .shut)
  have k12 := k10.tch t12 (by omega) (m1 (by omega))
  have lo1 : ∀ b, b < H.next → (h10.put h8.next (.obj .shut)).get b = H.get b := fun b hb => by
   rw [get_put_other _ (by omega), t10.2.2 _ (by show b < H'.next; omega) (m1 (by omega)), get_put_other _ (by omega), a7 _ (by omega) (by omega) (by omega), t1.2.2 b (by omega) (fun h => nomatch h), t8.2.2 b (by omega) (fun h => nomatch h), t6.2.2 b hb (fun h => nomatch h)]
  refine Wp.obind (RowH.ldAll k12 rfl) (Wp.ret ⟨v2, rfl, ?_, ?_, ?_, fun b hb _ => lo1 b hb⟩)
  ·have ka := (k9.tch t10 fun b hb => by rw [List.mem_singleton.1 hb]; omega).tch t12 fun b hb => by rw [List.mem_singleton.1 hb]; omega
   refine ⟨ka.1, ?_⟩
   rcases ka.2 with h0 | ⟨c, h1, h2, h3, h4, h5⟩
   ·exact .inl h0
   ·exact .inr ⟨c, h1, h2, by omega, h4, h5⟩
  ·show H.next ≤ h10.next
   omega
  ·show h10.ex = H.ex
   rw [t10.2.1]
   show H'.ex = H.ex
   rw [a6, hx]
 rcases hq with ⟨i, hi, he, acc, v2, a1, a2, a3, a4, a5, a6, a7, a8⟩ | ⟨i, hi, he, acc, v2, a1, a3, a4, a5, a6, a7, a8⟩
 ·obtain rfl := ent_end he a8
  exact Wp.rng (by kernel_rfl) e a4 (by decide) (fun _ => fin _ _ v2 a1 a3 a5 a6 a7) (fun h => nomatch h) (fun _ h => nomatch h)
 ·subst a8
  refine Wp.rng (by kernel_rfl) e a4 (by decide) (fun h => nomatch h) (fun h => nomatch h) (fun id h => ?_)
  cases h
  exact Wp.ift rfl (fin _ _ v2 a1 a3 a5 a6 a7)
end
def mendE (s : DS) (z g sz : Int) : Int := if g = sz then 0 else if errP s z ⟨1, [], g⟩ ≠ 0 then errP s z ⟨1, [], g⟩ else refP (actD s z ⟨1, [], g⟩).p z
def mendD (s : DS) (z g sz : Int) : DS := if g = sz then s else if errP s z ⟨1, [], g⟩ ≠ 0 then actD s z ⟨1, [], g⟩ else synD (actD s z ⟨1, [], g⟩) z
def pickF (f : Int) (l : List Ent) (a : Ent × Int) : Ent × Int := l.foldl (fun a e => if e.c > a.1.c then (e, f) else a) a
def EntAt (H : AHeap) (v : AV) (l : List Ent) : Prop := (v = .nsl ∧ l = []) ∨ ∃ c, v = .sl c 0 l.length 3 ∧ RowH H c TEnt (entR l).flatten ∧ c < H.next
def Less (lo lo' : Nat → Prop) : Prop := ∀ b, lo' b → lo b
section
variable {lo : Nat → Prop} {n d D db xb B : Nat} {h h' H : AHeap} {s : DS} {v : AV} {l : List Ent} {x : BoxS} {Q : ARes → AHeap → Prop}
theorem Sli.ents {e : Nat} (k : Sli TEnt 3 e H v (entR l)) : EntAt H v l ∧ ∀ b ∈ blkV v, e ≤ b ∧ b < H.next := by
 rcases k.2 with ⟨h1, rfl⟩ | ⟨c, _, rfl, h3, h4, h5⟩
 ·cases l with
  | nil => exact ⟨.inl ⟨rfl, rfl⟩, fun _ h => nomatch h⟩
  | cons a l => cases h1
 ·exact ⟨.inr ⟨c, by rw [List.length_map], h5, h4⟩, fun b hb => by rw [List.mem_singleton.1 hb]; exact ⟨h3, h4⟩⟩
theorem EntAt.tch {S : List Nat} (k : EntAt H v l) (t : Tch S H h') (hS : ∀ b ∈ blkV v, b ∉ S) : EntAt h' v l := by
 rcases k with k | ⟨c, rfl, h2, h3⟩
 ·exact .inl k
 ·exact .inr ⟨c, rfl, h2.tch t h3 (hS c (List.mem_singleton.2 rfl)), Nat.lt_of_lt_of_le h3 t.1⟩
theorem EntAt.len (k : EntAt H v l) : lenL v = some (l.length : Int) := by
 rcases k with ⟨rfl, rfl⟩ | ⟨c, rfl, _⟩ <;> rfl
theorem EntAt.one (k : EntAt H v l) : v.one = true := by
 rcases k with ⟨rfl, rfl⟩ | ⟨c, rfl, _⟩ <;> rfl
theorem EntAt.at (k : EntAt H v l) {i : Nat} (hi : i < l.length) : ∃ p, idxP 3 v (i : Int) = some p ∧ ldRow H 3 p = some (entC l[i]) := by
 rcases k with ⟨_, rfl⟩ | ⟨c, rfl, h5, _⟩
 ·cases hi
 ·refine ⟨.ptr c (0 + i * 3), idxP_sl hi, ?_⟩
  have hr : ∀ r ∈ entR l, r.length = 3 := fun r hr => by
   obtain ⟨e, _, rfl⟩ := List.mem_map.1 hr
   rfl
  have hlen := len_same (sz := 3) (entR l) hr
  rw [List.length_map] at hlen
  have hp := flat_part (sz := 3) (entR l) i (by rw [List.length_map]; exact hi) hr
  rw [List.getElem_map] at hp
  have h3 := h5.part (o := i * 3) (n := 3) (by omega)
  rw [hp] at h3
  rw [Nat.zero_add]
  exact h3
theorem mend_w {z g sz : Int} (hn : 1000000 < n) (K : At lo h db s B) (hb : B < 800000) (hv : v.one = true) : ∃ lo' h' S, world n (d + 4) 30 [.agg [v, .int .i64 g, .int .i64 sz], .ptr db 0, .int .i64 z] h = some (.ret (.int .i64 (mendE s z g sz)), h') ∧ At lo' h' db (mendD s z g sz) (B + 3) ∧ Less lo lo' ∧ Tch S h h' ∧ ∀ b ∈ S, lo b := by
 suffices hK : Wp (world n (d + 4) 30 [.agg [v, .int .i64 g, .int .i64 sz], .ptr db 0, .int .i64 z] h) fun r h' => r = .ret (.int .i64 (mendE s z g sz)) ∧ ∃ lo' S, At lo' h' db (mendD s z g sz) (B + 3) ∧ Less lo lo' ∧ Tch S h h' ∧ ∀ b ∈ S, lo b by
  obtain ⟨_, h', e, rfl, lo', S, k⟩ := hK
  exact ⟨lo', h', S, e, k⟩
 rw [w_vote_content_mend]
 unfold vote_content_mend mendE mendD
 refine Wp.mbox (Mem.nil [] h) (by rw [List.all_cons, hv]; rfl) fun h2 M2 => ?_
 have k2 := M2.at0.1
 have t2 := M2.tch
 have l2 := M2.at0.2.1
 have K2 := K.part t2 (fun _ h => nomatch h)
 have L2 : Less lo (fun b => lo b ∧ (b < h.next ∨ h2.next ≤ b)) := fun b hb => hb.1
 refine Wp.obind (fldP_ptr _ _ _) (Wp.obind (RowH.cell' k2 (show [v, AV.int .i64 g, AV.int .i64 sz][0 + 1]? = some (.int .i64 g) from rfl)) (Wp.obind (avInt_int _ _) (Wp.obind (fldP_ptr _ _ _) (Wp.obind (RowH.cell' k2 (show [v, AV.int .i64 g, AV.int .i64 sz][0 + 2]? = some (.int .i64 sz) from rfl)) (Wp.obind (avInt_int _ _) (Wp.lett ?_))))))
 by_cases c1 : g = sz
 ·rw [if_pos c1, if_pos c1]
  exact Wp.ift (beq_t c1) (Wp.ret ⟨rfl, _, [], K2.mono (by omega), L2, t2, fun _ h => nomatch h⟩)
 rw [if_neg c1, if_neg c1]
 obtain ⟨h3, S3, e3, K3, t3, hS3⟩ := cut_ok (n := n) (d := d) (z := z) (m := g) hn K2 (by omega)
 have T3 : Tch S3 h h3 := (t2.mono fun _ h => nomatch h).trans t3
 have hS3' : ∀ b ∈ S3, lo b := fun b hb => (hS3 b hb).1
 refine Wp.iff (beq_f c1) (Wp.obind (fldP_ptr _ _ _) (Wp.obind (RowH.cell' k2 (show [v, AV.int .i64 g, AV.int .i64 sz][0 + 1]? = some (.int .i64 g) from rfl)) (Wp.obind (avInt_int _ _) (Wp.callN e3 (Wp.obind (avInt_int _ _) (Wp.lett ?_))))))
 by_cases c2 : errP s z ⟨1, [], g⟩ = 0
 ·rw [if_neg (by simpa using c2), if_neg (by simpa using c2)]
  obtain ⟨h4, S4, e4, K4, t4, hS4⟩ := sync_ok (n := n) (d := d) (z := z) hn K3 (by omega)
  refine Wp.iff (bne_f c2) (Wp.callN e4 (Wp.obind (avInt_int _ _) (Wp.ret ⟨rfl, _, S3 ++ S4, K4.mono (by omega), L2, (T3.mono fun b hb => .inl (List.mem_append_left _ hb)).trans (t4.mono fun b hb => .inl (List.mem_append_right _ hb)), fun b hb => ?_⟩)))
  rcases List.mem_append.1 hb with hb | hb
  ·exact hS3' b hb
  ·exact (hS4 b hb).1
 ·rw [if_pos c2, if_pos c2]
  exact Wp.ift (bne_t c2) (Wp.ret ⟨rfl, _, S3, K3.mono (by omega), L2, T3, hS3'⟩)
theorem pick_loop {f : Int} (k : EntAt H v l) (hl : l.length < 1000000) (hxl : ∀ b ∈ blkV v, b ≠ xb) {k75 : AHeap → R} (hk : ∀ H' x', RowH H' xb TBox (boxC db x') → x' = { x with ne := (pickF f l (x.ne, x.file)).1, file := (pickF f l (x.ne, x.file)).2 } → Tch [xb] H H' → Wp (k75 H') Q) :
  ∀ (r i fu : Nat) (H2 : AHeap) (x2 : BoxS), r + i = l.length → r < fu → Tch [xb] H H2 → RowH H2 xb TBox (boxC db x2) → xb < H2.next → x2 = { x with ne := (pickF f (l.take i) (x.ne, x.file)).1, file := (pickF f (l.take i) (x.ne, x.file)).2 } →
   Wp (vote_Open_L1 (.ptr xb 0) f v (l.length : Int) k75 fu (i : Int) H2) Q
 | _, _, 0, _, _, _, hf, _, _, _, _ => by omega
 | 0, i, fu + 1, H2, x2, hi, _, t, kx, hb, hx2 => by
  rw [vote_Open_L1_s]
  unfold vote_Open_L1b
  rw [List.take_of_length_le (by omega)] at hx2
  exact Wp.lett (Wp.iff (by rw [decide_eq_false_iff_not]; omega) (hk H2 x2 kx hx2 t))
 | r + 1, i, fu + 1, H2, x2, hi, hf, t, kx, hb, hx2 => by
  have hil : i < l.length := by omega
  have k2 := k.tch t (fun b hb h => hxl b hb (List.mem_singleton.1 h))
  obtain ⟨p, i1, r1⟩ := k2.at hil
  have hs : pickF f (l.take (i + 1)) (x.ne, x.file) = if l[i].c > x2.ne.c then (l[i], f) else (x2.ne, x2.file) := by
   rw [List.take_succ_eq_append_getElem hil]
   unfold pickF
   rw [List.foldl_append, hx2]
   rfl
  rw [vote_Open_L1_s]
  unfold vote_Open_L1b
  refine Wp.lett (Wp.ift (by rw [decide_eq_true_eq]; omega) (Wp.obind i1 (Wp.obind r1 (Wp.mnew (Mem.nil [] H2) fun h3 M3 => ?_))))
  rw [newP_eq]
  refine Wp.sa0 M3 rfl rfl rfl fun h4 M4 => ?_
  have t4 := M4.tch
  have k4 := M4.at0.1
  have kx4 := kx.tch t4 hb (fun h => nomatch h)
  have n4 := t4.1
  refine Wp.obind (RowH.cell' k4 (show (entC l[i])[0]? = some (.int .i64 l[i].c) from rfl)) (Wp.obind (avInt_int _ _) (Wp.obind (nilC_ptr _ _) (Wp.obind (fldP_ptr _ _ _) (Wp.obind (fldP_ptr _ _ _) (Wp.obind (RowH.cell' kx4 (show (boxC db x2)[0 + 3 + 0]? = some (.int .i64 x2.ne.c) from rfl)) (Wp.obind (avInt_int _ _) (Wp.lett (Wp.lettG fun k101 e101 => ?_))))))))
  have next : ∀ H5 x5, RowH H5 xb TBox (boxC db x5) → Tch [xb] H2 H5 → x5 = { x with ne := (pickF f (l.take (i + 1)) (x.ne, x.file)).1, file := (pickF f (l.take (i + 1)) (x.ne, x.file)).2 } → Wp (k101 H5) Q := fun H5 x5 kx5 t5 hx5 => by
   rw [e101]
   refine Wp.lettw (by omega) (by omega) ?_
   rw [show (i : Int) + 1 = ((i + 1 : Nat) : Int) by omega]
   exact pick_loop k hl hxl hk r (i + 1) fu H5 x5 (by omega) (by omega) (t.trans t5) kx5 (Nat.lt_of_lt_of_le hb t5.1) hx5
  by_cases c1 : l[i].c > x2.ne.c
  ·rw [if_pos c1] at hs
   refine Wp.ift (decide_eq_true c1) (Wp.lr0 M4 rfl (Wp.obind (nilC_ptr _ _) (Wp.obind (fldP_ptr _ _ _) (Wp.stN kx4 rfl (show 0 + 3 + 3 ≤ 8 by decide) rfl fun h5 kx5 t5 n5 => Wp.obind (nilC_ptr _ _) (Wp.obind (fldP_ptr _ _ _) (Wp.st1 kx5 (show 0 + 6 < 8 by decide) rfl fun h6 kx6 t6 n6 => next h6 { x2 with ne := l[i], file := f } kx6 (((t4.mono fun _ h => nomatch h).trans t5).trans t6) ?_))))))
   rw [hs, hx2]
  ·rw [if_neg c1] at hs
   refine Wp.iff (decide_eq_false c1) (next h4 x2 kx4 (t4.mono fun _ h => nomatch h) ?_)
   rw [hs, hx2]
end
abbrev ne0 : Ent := ⟨0, 0, -1⟩
def g0 (s : DS) (f : Int) : Int := ((29 * (lookE (readS s f)).length : Nat) : Int)
def z0 (s : DS) (f : Int) : Int := ((readS s f).length : Int)
def opD (s : DS) : DS := mendD (mendD s 0 (g0 s 0) (z0 s 0)) 1 (g0 s 1) (z0 s 1)
def opP (s : DS) : Ent × Int := pickF 1 (lookE (readS s 1)) (pickF 0 (lookE (readS s 0)) (ne0, 0))
def opX (s : DS) : BoxS := ⟨((lookE (readS s 0)).length : Int), ((lookE (readS s 1)).length : Int), (opP s).1, (opP s).2, 0⟩
def setM (x : BoxS) (f : Nat) (m : Int) : BoxS := if f = 0 then { x with m0 := m } else { x with m1 := m }
section
variable {lo : Nat → Prop} {n d D db xb B : Nat} {h h' H : AHeap} {s : DS} {v w : AV} {l l' : List Ent} {x : BoxS} {Q : ARes → AHeap → Prop}
theorem bldTwo {a b c e : Int} (k : EntAt h v l) (k' : EntAt h' w l') : bldS Try.prog 87 [(0, .agg [v, .int .i64 a, .int .i64 b]), (1, .agg [w, .int .i64 c, .int .i64 e])] = some [v, .int .i64 a, .int .i64 b, w, .int .i64 c, .int .i64 e] := by
 rcases k with ⟨rfl, _⟩ | ⟨c1, rfl, _⟩ <;> rcases k' with ⟨rfl, _⟩ | ⟨c2, rfl, _⟩
 ·kernel_rfl
 ·generalize l'.length = m
  kernel_rfl
 ·generalize l.length = m
  kernel_rfl
 ·generalize l.length = m
  generalize l'.length = m'
  kernel_rfl
theorem ixTwo0 {a b c e : Int} (k : EntAt h v l) (k' : EntAt h' w l') (H : AHeap) : opIndex Try.prog H 87 (some (.agg [v, .int .i64 a, .int .i64 b, w, .int .i64 c, .int .i64 e])) (some (.int .i64 0)) = some (.val (.agg [v, .int .i64 a, .int .i64 b]), H) := by
 rcases k with ⟨rfl, _⟩ | ⟨c1, rfl, _⟩ <;> rcases k' with ⟨rfl, _⟩ | ⟨c2, rfl, _⟩
 ·kernel_rfl
 ·generalize l'.length = m
  kernel_rfl
 ·generalize l.length = m
  kernel_rfl
 ·generalize l.length = m
  generalize l'.length = m'
  kernel_rfl
theorem ixTwo1 {a b c e : Int} (k : EntAt h v l) (k' : EntAt h' w l') (H : AHeap) : opIndex Try.prog H 87 (some (.agg [v, .int .i64 a, .int .i64 b, w, .int .i64 c, .int .i64 e])) (some (.int .i64 1)) = some (.val (.agg [w, .int .i64 c, .int .i64 e]), H) := by
 rcases k with ⟨rfl, _⟩ | ⟨c1, rfl, _⟩ <;> rcases k' with ⟨rfl, _⟩ | ⟨c2, rfl, _⟩
 ·kernel_rfl
 ·generalize l'.length = m
  kernel_rfl
 ·generalize l.length = m
  kernel_rfl
 ·generalize l.length = m
  generalize l'.length = m'
  kernel_rfl
theorem open_iter {f fu : Nat} {g z : Int} {t26 : List AV} (hf : f < 2) (hn : 1000000 < n) (hix : ∀ H, opIndex Try.prog H 87 (some (.agg t26)) (some (.int .i64 (f : Int))) = some (.val (.agg [v, .int .i64 g, .int .i64 z]), H)) (K : At lo H db s B) (hB : B < 800000)
  (kx : RowH H xb TBox (boxC db x)) (hxb : xb < H.next) (hxl : ¬ lo xb) (k : EntAt H v l) (hl : l.length < 1000000) (hv : ∀ b ∈ blkV v, b < H.next ∧ ¬ lo b ∧ b ≠ xb) (he : mendE s (f : Int) g z = 0) {k36 : AHeap → R}
  (hk : ∀ lo' H' x' S, At lo' H' db (mendD s (f : Int) g z) (B + 3) → Less lo lo' → RowH H' xb TBox (boxC db x') → x' = { setM x f (l.length : Int) with ne := (pickF (f : Int) l (x.ne, x.file)).1, file := (pickF (f : Int) l (x.ne, x.file)).2 } → Tch S H H' → (∀ b ∈ S, lo b ∨ b = xb) →
   Wp (vote_Open_L0 (wL n (D + 5) (d + 5) false) n (.ptr db 0) (.ptr xb 0) t26 k36 fu ((f : Int) + 1) H') Q) :
  Wp (vote_Open_L0 (wL n (D + 5) (d + 5) false) n (.ptr db 0) (.ptr xb 0) t26 k36 (fu + 1) (f : Int) H) Q := by
 rw [vote_Open_L0_s]
 unfold vote_Open_L0b
 refine Wp.lett (Wp.ift (by rw [decide_eq_true_eq]; omega) (Wp.outK (hix H) (Wp.obind (avAgg_agg _) (Wp.mnew (Mem.nil [] H) fun h2 M2 => ?_))))
 rw [newP_eq]
 refine Wp.sa0 M2 rfl rfl (by rw [List.all_cons, k.one]; rfl) fun h3 M3 => Wp.lr0 M3 rfl ?_
 have t3 := M3.tch
 have k3 := M3.at0.1
 have l3 := M3.at0.2.1
 have n3 := t3.1
 have K3 := K.part t3 (fun _ h => nomatch h)
 obtain ⟨lo4, h4, S4, e4, K4, L4, t4, hS4⟩ := mend_w (n := n) (d := D + 1) (z := (f : Int)) (g := g) (sz := z) hn K3 hB k.one
 have n4 := t4.1
 have kx4 := (kx.tch t3 hxb (fun h => nomatch h)).tch t4 (by omega) (fun hm => hxl (hS4 _ hm).1)
 have kc4 := k3.tch t4 l3 (fun hm => by rcases (hS4 _ hm).2 with h | h <;> omega)
 have ke4 := (k.tch t3 (fun _ _ h => nomatch h)).tch t4 (fun b hb hm => (hv b hb).2.1 (hS4 _ hm).1)
 refine Wp.callN ((wL_b 30).trans e4) (Wp.obind (avInt_int _ _) (Wp.lett (Wp.iff (bne_f he) (Wp.obind (RowH.cell' kc4 rfl) (Wp.obind ke4.len (Wp.obind (nilC_ptr _ _) (Wp.obind (fldP_ptr _ _ _) ?_)))))))
 have hix2 : idxA 2 1 (.ptr xb (0 + 1)) (f : Int) = some (.ptr xb (1 + f)) := by
  rcases (show f = 0 ∨ f = 1 by omega) with rfl | rfl <;> rfl
 refine Wp.obind hix2 (Wp.st1 kx4 (show 1 + f < 8 by omega) rfl fun h5 kx5 t5 n5 => ?_)
 have kc5 := kc4.tch t5 (by omega) (fun h => by have := List.mem_singleton.1 h; omega)
 have ke5 := ke4.tch t5 (fun b hb h => (hv b hb).2.2 (List.mem_singleton.1 h))
 have kx5' : RowH h5 xb TBox (boxC db (setM x f (l.length : Int))) := by
  unfold setM
  rcases (show f = 0 ∨ f = 1 by omega) with rfl | rfl
  ·exact kx5
  ·exact kx5
 have hsx : (setM x f (l.length : Int)).ne = x.ne ∧ (setM x f (l.length : Int)).file = x.file := by
  unfold setM
  split <;> exact ⟨rfl, rfl⟩
 refine Wp.obind (RowH.cell' kc5 rfl) (Wp.obind ke5.len (Wp.lettG fun k75 e75 => ?_))
 refine pick_loop (db := db) (xb := xb) (x := setM x f (l.length : Int)) ke5 hl (fun b hb => (hv b hb).2.2) (fun h6 x6 kx6 hx6 t6 => ?_) l.length 0 n h5 (setM x f (l.length : Int)) (Nat.add_zero _) (by omega) (Tch.refl _ _) kx5' (by omega) rfl
 rw [hsx.1, hsx.2] at hx6
 rw [e75]
 refine Wp.lettw (by omega) (by omega) ?_
 have T : Tch (xb :: S4) H h6 := ((((t3.mono (S' := xb :: S4) fun _ h => nomatch h).trans (t4.mono fun b hb => .inl (List.mem_cons_of_mem _ hb))).trans (t5.mono fun b hb => .inl (by rw [List.mem_singleton.1 hb]; exact List.mem_cons_self ..))).trans (t6.mono fun b hb => .inl (by rw [List.mem_singleton.1 hb]; exact List.mem_cons_self ..)))
 have nlx : ¬ lo4 xb := fun hh => hxl (L4 _ hh).1
 have K6 := (K4.tch t5 (fun b hb => .inl (by rw [List.mem_singleton.1 hb]; exact nlx))).tch t6 (fun b hb => .inl (by rw [List.mem_singleton.1 hb]; exact nlx))
 refine hk lo4 h6 x6 (xb :: S4) K6 (fun b hb => (L4 b hb).1) kx6 hx6 T fun b hb => ?_
 rcases List.mem_cons.1 hb with rfl | hb
 ·exact .inr rfl
 ·exact .inl (hS4 b hb).1
set_option maxHeartbeats 1000000 in
theorem open_w (K : At lo H db s B) (hB : B < 700000) (hn : 1000000000 < n) (hp : s.p ≠ 0) (hu0 : (readS s 0).length < 1000000) (hu1 : (readS s 1).length < 1000000) (h0 : mendE s 0 (g0 s 0) (z0 s 0) = 0) (h1 : mendE (mendD s 0 (g0 s 0) (z0 s 0)) 1 (g0 s 1) (z0 s 1) = 0) :
  ∃ lo' H' xb S, wL n (D + 5) (d + 6) false 10 [.ptr db 0] H = some (.ret (.tup [.ptr xb 0, .int .i64 0]), H') ∧ At lo' H' db (opD s) (B + 6) ∧ Less lo lo' ∧ RowH H' xb TBox (boxC db (opX s)) ∧ xb < H'.next ∧ H.next ≤ xb ∧ ¬ lo' xb ∧ Tch S H H' ∧ ∀ b ∈ S, lo b := by
 suffices hK : Wp (vote_Open (wL n (D + 5) (d + 5) false) n (.ptr db 0) H) fun r H' => ∃ lo' xb S, r = .ret (.tup [.ptr xb 0, .int .i64 0]) ∧ At lo' H' db (opD s) (B + 6) ∧ Less lo lo' ∧ RowH H' xb TBox (boxC db (opX s)) ∧ xb < H'.next ∧ H.next ≤ xb ∧ ¬ lo' xb ∧ Tch S H H' ∧ ∀ b ∈ S, lo b by
  obtain ⟨_, H', e, lo', xb, S, rfl, k⟩ := hK
  exact ⟨lo', H', xb, S, wL_vote_Open n (D + 5) (d + 5) _ e, k⟩
 unfold vote_Open
 refine Wp.outK (eqDisk db 0 H) (Wp.obind (avBool_bool _) (Wp.iff rfl (Wp.callN ((wL_b 28).trans (on_b (n := n) (d := D + 4) K)) (Wp.obind (avBool_bool _) (Wp.lett ?_)))))
 rw [decide_eq_true hp]
 obtain ⟨h2, v0, e2, k2, t2⟩ := look_w (n := n) (D := D) (d := d) (f := 0) K (by omega) hn
 have n2 := t2.1
 have K2 := K.part t2 (fun _ h => nomatch h)
 obtain ⟨h3, v1, e3, k3, t3⟩ := look_w (n := n) (D := D) (d := d) (f := 1) K2 (by omega) hn
 have n3 := t3.1
 have K3 := K2.part t3 (fun _ h => nomatch h)
 obtain ⟨E0, b0⟩ := Sli.ents k2
 obtain ⟨E1, b1⟩ := Sli.ents k3
 have E03 := E0.tch t3 (fun _ _ h => nomatch h)
 refine Wp.iff rfl (Wp.callN e2 (Wp.obind (avAgg_agg _) (Wp.callN e3 (Wp.obind (avAgg_agg _) (Wp.obind (bldTwo E03 E1) (Wp.mnew (Mem.nil [] h3) fun h4 M4 => ?_))))))
 rw [newP_eq]
 refine Wp.sa0 M4 rfl rfl (by rw [List.all_cons, E03.one]; show (true && (true && (true && (v1.one && _)))) = true; rw [E1.one]; rfl) fun h5 M5 => Wp.obind (a := [.int .i64 0, .int .i64 0, .int .i64 (-1)]) (by kernel_rfl) (Wp.obind (a := boxC db ⟨0, 0, ne0, 0, 0⟩) (by kernel_rfl) (Wp.mbox M5 rfl fun h6 M6 => Wp.lr1 M6 rfl (Wp.lettG fun k36 e36 => ?_)))
 have t6 := M6.tch
 have kx6 := M6.at0.1
 have lx6 := M6.at0.2.1
 have n5 := M5.tch.1
 have n6 := t6.1
 have K6 := K3.part t6 (fun _ h => nomatch h)
 have E06 := E03.tch t6 (fun _ _ h => nomatch h)
 have E16 := E1.tch t6 (fun _ _ h => nomatch h)
 have hl0 := lookE_len (readS s 0)
 have hl1 := lookE_len (readS s 1)
 obtain ⟨m, hm⟩ : ∃ m, n = m + 3 := ⟨n - 3, by omega⟩
 have hfu : ∀ T, (Wp (vote_Open_L0 (wL n (D + 5) (d + 5) false) n (.ptr db 0) (.ptr h5.next 0) T k36 (m + 1 + 1 + 1) ((0 : Nat) : Int) h6) fun r H' => ∃ lo' xb S, r = .ret (.tup [.ptr xb 0, .int .i64 0]) ∧ At lo' H' db (opD s) (B + 6) ∧ Less lo lo' ∧ RowH H' xb TBox (boxC db (opX s)) ∧ xb < H'.next ∧ H.next ≤ xb ∧ ¬ lo' xb ∧ Tch S H H' ∧ ∀ b ∈ S, lo b) → Wp (vote_Open_L0 (wL n (D + 5) (d + 5) false) n (.ptr db 0) (.ptr h5.next 0) T k36 n 0 h6) fun r H' => ∃ lo' xb S, r = .ret (.tup [.ptr xb 0, .int .i64 0]) ∧ At lo' H' db (opD s) (B + 6) ∧ Less lo lo' ∧ RowH H' xb TBox (boxC db (opX s)) ∧ xb < H'.next ∧ H.next ≤ xb ∧ ¬ lo' xb ∧ Tch S H H' ∧ ∀ b ∈ S, lo b := fun T hw => by
  have : n = m + 1 + 1 + 1 := by omega
  rw [show (vote_Open_L0 (wL n (D + 5) (d + 5) false) n (.ptr db 0) (.ptr h5.next 0) T k36 n 0 h6) = vote_Open_L0 (wL n (D + 5) (d + 5) false) n (.ptr db 0) (.ptr h5.next 0) T k36 (m + 1 + 1 + 1) ((0 : Nat) : Int) h6 from by rw [← this]; rfl]
  exact hw
 refine hfu _ ?_
 have nl6 : ¬ (fun b => (fun b => (fun b => lo b ∧ (b < H.next ∨ h2.next ≤ b)) b ∧ (b < h2.next ∨ h3.next ≤ b)) b ∧ (b < h3.next ∨ h6.next ≤ b)) h5.next := fun hh => by
  rcases hh.2 with h | h <;> omega
 refine open_iter (f := 0) (D := D) (d := d) (x := ⟨0, 0, ne0, 0, 0⟩) (by decide) (by omega) (fun H => ixTwo0 E06 E16 H) K6 (by omega) kx6 lx6 nl6 E06 (by omega) (fun b hb => by
  obtain ⟨c1, c2⟩ := b0 b hb
  refine ⟨by omega, fun hh => ?_, by omega⟩
  rcases hh.1.1.2 with h | h <;> omega) h0 (fun lo7 h7 x7 S7 K7 L7 kx7 hx7 t7 hS7 => ?_)
 have n7 := t7.1
 have E17 := E16.tch t7 (fun b hb hm => by
  obtain ⟨c1, c2⟩ := b1 b hb
  rcases hS7 b hm with hh | hh
  ·rcases hh.1.2 with h | h <;> omega
  ·omega)
 have nl7 : ¬ lo7 h5.next := fun hh => nl6 (L7 _ hh)
 refine open_iter (f := 1) (D := D) (d := d) (x := x7) (by decide) (by omega) (fun H => ixTwo1 E06 E16 H) K7 (by omega) kx7 (by omega) nl7 E17 (by omega) (fun b hb => by
  obtain ⟨c1, c2⟩ := b1 b hb
  refine ⟨by omega, fun hh => ?_, by omega⟩
  rcases (L7 _ hh).1.2 with h | h <;> omega) h1 (fun lo8 h8 x8 S8 K8 L8 kx8 hx8 t8 hS8 => ?_)
 have n8 := t8.1
 rw [vote_Open_L0_s]
 unfold vote_Open_L0b
 refine Wp.lett (Wp.iff rfl ?_)
 rw [e36]
 have hX : x8 = opX s := by
  rw [hx8, hx7]
  rfl
 have nl8 : ¬ lo8 h5.next := fun hh => nl7 (L8 _ hh)
 have T6 : Tch [] H h6 := (t2.trans t3).trans t6
 refine Wp.ret ⟨lo8, h5.next, (S7 ++ S8).filter (fun b => decide (b ≠ h5.next)), rfl, K8, fun b hb => (L7 _ (L8 _ hb)).1.1.1, by rw [← hX]; exact kx8, by omega, by omega, nl8, ?_, fun b hb => ?_⟩
 ·refine ((T6.mono fun _ h => nomatch h).trans' (t7.mono (S' := S7 ++ S8) fun b hb => .inl (List.mem_append_left _ hb)) fun b hb => ?_).trans' (t8.mono (S' := S7 ++ S8) fun b hb => .inl (List.mem_append_right _ hb)) fun b hb => ?_
  ·by_cases hbx : b = h5.next
   ·exact .inr (by omega)
   ·exact .inl (List.mem_filter.2 ⟨hb, decide_eq_true hbx⟩)
  ·by_cases hbx : b = h5.next
   ·exact .inr (by omega)
   ·exact .inl (List.mem_filter.2 ⟨hb, decide_eq_true hbx⟩)
 ·obtain ⟨hm, hne⟩ := List.mem_filter.1 hb
  have hne := of_decide_eq_true hne
  rcases List.mem_append.1 hm with hm | hm
  ·rcases hS7 b hm with h | h
   ·exact h.1.1.1
   ·exact absurd h hne
  ·rcases hS8 b hm with h | h
   ·exact (L7 _ h).1.1.1
   ·exact absurd h hne
end
abbrev TPB : Nat := 25
abbrev TBoo : Nat := 4
theorem eqBal (a b c d : Int) : eqOther Try.prog TBal (.agg [.int .i64 a, .int .i64 b]) (.agg [.int .i64 c, .int .i64 d]) = some (decide (a = c ∧ b = d)) := by
 have hf : flatB Try.prog TBal [1, 1] = true := by kernel_rfl
 have he : eqL [1, 1] [.int .i64 a, .int .i64 b] [.int .i64 c, .int .i64 d] = some ((a == c) && ((b == d) && true)) := eqL_cons rfl (eqCell_int _ _ _) (eqL_cons rfl (eqCell_int _ _ _) rfl)
 rw [eq_flat hf he]
 by_cases h1 : a = c
 ·by_cases h2 : b = d
  ·simp [h1, h2]
  ·simp [h2]
 ·simp [h1]
def chR : Chg := ⟨2, [], 0⟩
def chA (u : Bytes) : Chg := ⟨0, u, 0⟩
def there (s : DS) (g : Int) : Bool := (s.fs g.toNat).seen.th
def stp1 (s : DS) (g : Int) (fr : Bool) : Int × DS := if (fr && there s g) = true then (errP s g chR, actD s g chR) else (0, s)
def stpW (s : DS) (g : Int) (fr : Bool) (u : Bytes) : Int × DS :=
 if (stp1 s g fr).1 ≠ 0 then stp1 s g fr else
 if errP (stp1 s g fr).2 g (chA u) ≠ 0 then (errP (stp1 s g fr).2 g (chA u), actD (stp1 s g fr).2 g (chA u)) else
 (refP (actD (stp1 s g fr).2 g (chA u)).p g, synD (actD (stp1 s g fr).2 g (chA u)) g)
theorem filesL_mem (s : DS) (f : Nat) : ∀ k, (f : Int) ∈ filesL s k ↔ f < k ∧ (s.fs f).seen.th = true
 | 0 => by
  show (f : Int) ∈ [] ↔ _
  exact ⟨(fun h => nomatch h), fun h => by omega⟩
 | k + 1 => by
  have ih := filesL_mem s f k
  unfold filesL
  split
  ·rename_i h1
   rw [List.mem_append, List.mem_singleton, ih]
   constructor
   ·rintro (⟨h2, h3⟩ | h2)
    ·exact ⟨by omega, h3⟩
    ·have : f = k := by omega
     subst this
     exact ⟨by omega, h1⟩
   ·rintro ⟨h2, h3⟩
    by_cases he : f = k
    ·exact .inr (by omega)
    ·exact .inl ⟨by omega, h3⟩
  ·rename_i h1
   rw [ih]
   constructor
   ·rintro ⟨h2, h3⟩
    exact ⟨by omega, h3⟩
   ·rintro ⟨h2, h3⟩
    have : f ≠ k := fun he => by
     subst he
     exact h1 h3
    exact ⟨by omega, h3⟩
section
variable {lo : Nat → Prop} {n d D db xb vb fb rb tb B : Nat} {h h' H : AHeap} {s : DS} {v : AV} {zs : List Int} {x : BoxS} {Q : ARes → AHeap → Prop} {g : Int} {fr : Bool} {u : Bytes}
theorem index_loop {z : Int} (k : IAt H v zs) (hl : zs.length < 1000000) {k6 : AHeap → R} (hk : z ∉ zs → Wp (k6 H) Q) (hf : ∀ i : Nat, z ∈ zs → Q (.ret (.int .i64 (i : Int))) H) : ∀ (r i fu : Nat), r + i = zs.length → r < fu → z ∉ zs.take i → Wp (slices_Index___int_int__L0 v z (zs.length : Int) k6 fu (i : Int) H) Q
 | _, _, 0, _, hfu, _ => by omega
 | 0, i, fu + 1, hi, _, hz => by
  rw [slices_Index___int_int__L0_s]
  unfold slices_Index___int_int__L0b
  rw [List.take_of_length_le (by omega)] at hz
  exact Wp.lett (Wp.iff (by rw [decide_eq_false_iff_not]; omega) (hk hz))
 | r + 1, i, fu + 1, hi, hfu, hz => by
  have hil : i < zs.length := by omega
  obtain ⟨p, i1, r1⟩ := k.at hil
  rw [slices_Index___int_int__L0_s]
  unfold slices_Index___int_int__L0b
  refine Wp.lett (Wp.ift (by rw [decide_eq_true_eq]; omega) (Wp.obind i1 (Wp.obind r1 (Wp.obind (avInt_int _ _) (Wp.lett ?_)))))
  by_cases hc : z = zs[i]
  ·exact Wp.ift (beq_t hc) (Wp.ret (hf i (by rw [hc]; exact List.getElem_mem hil)))
  ·refine Wp.iff (beq_f hc) (Wp.lettw (by omega) (by omega) ?_)
   rw [show (i : Int) + 1 = ((i + 1 : Nat) : Int) by omega]
   refine index_loop k hl hk hf r (i + 1) fu (by omega) (by omega) fun hm => ?_
   rw [List.take_succ_eq_append_getElem hil, List.mem_append, List.mem_singleton] at hm
   exact hm.elim hz hc
theorem contains_w {z : Int} (k : IAt H v zs) (hl : zs.length < 1000000) (hn : 1000000 < n) : world n (d + 2) 35 [v, .int .i64 z] H = some (.ret (.bool (decide (z ∈ zs))), H) := by
 have hi : ∃ j : Int, world n (d + 1) 60 [v, .int .i64 z] H = some (.ret (.int .i64 j), H) ∧ (0 ≤ j ↔ z ∈ zs) := by
  suffices hK : Wp (world n (d + 1) 60 [v, .int .i64 z] H) fun r h' => h' = H ∧ ∃ j : Int, r = .ret (.int .i64 j) ∧ (0 ≤ j ↔ z ∈ zs) by
   obtain ⟨_, h', e, rfl, j, rfl, k⟩ := hK
   exact ⟨j, e, k⟩
  rw [w_slices_Index___int_int_]
  unfold slices_Index___int_int_
  refine Wp.obind k.len (Wp.lettG fun k6 e6 => ?_)
  refine index_loop k hl (fun hz => ?_) (fun i hz => ⟨rfl, (i : Int), rfl, ⟨fun _ => hz, fun _ => by omega⟩⟩) zs.length 0 n (Nat.add_zero _) (by omega) (fun h => nomatch h)
  rw [e6]
  exact Wp.ret ⟨rfl, -1, rfl, ⟨fun h => by omega, fun h => absurd h hz⟩⟩
 obtain ⟨j, e, hj⟩ := hi
 apply Wp.eq
 rw [w_slices_Contains___int_int_]
 unfold slices_Contains___int_int_
 refine Wp.callN e (Wp.obind (avInt_int _ _) (Wp.lett (Wp.ret ⟨?_, rfl⟩)))
 rw [show decide (j ≥ 0) = decide (z ∈ zs) from decide_eq_decide.2 hj]
structure Clo (lo : Nat → Prop) (h : AHeap) (xb vb fb rb tb db : Nat) (x : BoxS) (g : Int) (fr : Bool) (u : Bytes) : Prop where
 kx : RowH h xb TBox (boxC db x)
 kv : RowH h vb TPB [.ptr xb 0]
 kf : RowH h fb TI3 [.int .i64 g]
 kr : RowH h rb TBoo [.bool fr]
 kt : RowH h tb TStr [strA u]
 lx : xb < h.next ∧ ¬ lo xb
 lv : vb < h.next ∧ ¬ lo vb
 lf : fb < h.next ∧ ¬ lo fb
 lr : rb < h.next ∧ ¬ lo rb
 lt : tb < h.next ∧ ¬ lo tb
theorem Clo.tch {S : List Nat} {lo' : Nat → Prop} (C : Clo lo h xb vb fb rb tb db x g fr u) (t : Tch S h h') (hS : ∀ b ∈ S, lo b) (hl : Less lo lo') : Clo lo' h' xb vb fb rb tb db x g fr u :=
  ⟨C.kx.tch t C.lx.1 fun hm => C.lx.2 (hS _ hm), C.kv.tch t C.lv.1 fun hm => C.lv.2 (hS _ hm), C.kf.tch t C.lf.1 fun hm => C.lf.2 (hS _ hm), C.kr.tch t C.lr.1 fun hm => C.lr.2 (hS _ hm), C.kt.tch t C.lt.1 fun hm => C.lt.2 (hS _ hm),
   ⟨Nat.lt_of_lt_of_le C.lx.1 t.1, fun hh => C.lx.2 (hl _ hh)⟩, ⟨Nat.lt_of_lt_of_le C.lv.1 t.1, fun hh => C.lv.2 (hl _ hh)⟩, ⟨Nat.lt_of_lt_of_le C.lf.1 t.1, fun hh => C.lf.2 (hl _ hh)⟩, ⟨Nat.lt_of_lt_of_le C.lr.1 t.1, fun hh => C.lr.2 (hl _ hh)⟩, ⟨Nat.lt_of_lt_of_le C.lt.1 t.1, fun hh => C.lt.2 (hl _ hh)⟩⟩
theorem wr1_w (hn : 1000000 < n) (K : At lo h db s B) (hB : B < 800000) (C : Clo lo h xb vb fb rb tb db x g fr u) (hg : g = 0 ∨ g = 1) :
  ∃ lo' h' S, world n (d + 4) 34 [.ptr rb 0, .ptr vb 0, .ptr fb 0] h = some (.ret (.int .i64 (stp1 s g fr).1), h') ∧ At lo' h' db (stp1 s g fr).2 (B + 2) ∧ Less lo lo' ∧ Tch S h h' ∧ ∀ b ∈ S, lo b := by
 suffices hK : Wp (world n (d + 4) 34 [.ptr rb 0, .ptr vb 0, .ptr fb 0] h) fun r h' => r = .ret (.int .i64 (stp1 s g fr).1) ∧ ∃ lo' S, At lo' h' db (stp1 s g fr).2 (B + 2) ∧ Less lo lo' ∧ Tch S h h' ∧ ∀ b ∈ S, lo b by
  obtain ⟨_, h', e, rfl, lo', S, k⟩ := hK
  exact ⟨lo', h', S, e, k⟩
 rw [w_vote_Box_Write_1]
 unfold vote_Box_Write_1 stp1
 refine Wp.lettG fun k4 e4 => Wp.obind (RowH.cell' C.kr rfl) (Wp.obind (avBool_bool _) (Wp.lett ?_))
 cases fr with
 | false =>
  rw [Bool.false_and, if_neg (by decide)]
  refine Wp.ift rfl ?_
  rw [e4]
  exact Wp.ift rfl (Wp.ret ⟨rfl, lo, [], K.mono (by omega), fun _ h => h, Tch.refl _ _, fun _ h => nomatch h⟩)
 | true =>
  obtain ⟨h2, v2, e2, t2, k2, b2⟩ := files_a (n := n) (d := d + 2) K hn
  have hle := filesL_le s 32
  have C2 := C.tch t2 (fun _ h => nomatch h) (fun _ h => h)
  have K2 := K.part t2 (fun _ h => nomatch h)
  have hre : reLoad Try.prog h2 TI3 (.ptr fb 0) (.int .i64 g) = true := reLoad_c (by kernel_rfl) (RowH.cell' C2.kf rfl)
  refine Wp.iff rfl (Wp.obind (RowH.cell' C.kv rfl) (Wp.obind (nilC_ptr _ _) (Wp.obind (fldP_ptr _ _ _) (Wp.obind (RowH.cell' C.kx (show (boxC db x)[0 + 0]? = some (.ptr db 0) from rfl)) (Wp.obind (RowH.cell' C.kf rfl) (Wp.obind (avInt_int _ _) (Wp.callN e2 (Wp.chk (by rw [hre]; rfl) (Wp.callN (contains_w (n := n) (d := d + 1) (z := g) k2 (by omega) hn) (Wp.obind (avBool_bool _) (Wp.lett ?_)))))))))))
  have hmem : g ∈ filesL s 32 ↔ there s g = true := by
   rcases hg with rfl | rfl
   ·have := filesL_mem s 0 32
    exact ⟨fun h => (this.1 h).2, fun h => this.2 ⟨by decide, h⟩⟩
   ·have := filesL_mem s 1 32
    exact ⟨fun h => (this.1 h).2, fun h => this.2 ⟨by decide, h⟩⟩
  by_cases hc : there s g = true
  ·rw [if_pos (show (true && there s g) = true by rw [hc]; rfl), decide_eq_true (hmem.2 hc), e4]
   obtain ⟨h3, S3, e3, K3, t3, hS3⟩ := remove_ok (n := n) (d := d) (z := g) hn K2 (by omega)
   refine Wp.iff rfl (Wp.obind (RowH.cell' C2.kv rfl) (Wp.obind (nilC_ptr _ _) (Wp.obind (fldP_ptr _ _ _) (Wp.obind (RowH.cell' C2.kx (show (boxC db x)[0 + 0]? = some (.ptr db 0) from rfl)) (Wp.obind (RowH.cell' C2.kf rfl) (Wp.obind (avInt_int _ _) (Wp.callN e3 (Wp.obind (avInt_int _ _) (Wp.ret ⟨rfl, _, S3, K3, fun b hb => hb.1, (t2.mono fun _ h => nomatch h).trans t3, fun b hb => (hS3 b hb).1⟩)))))))))
  ·rw [if_neg (show ¬ (true && there s g) = true by simpa using hc), decide_eq_false (fun h => hc (hmem.1 h)), e4]
   exact Wp.ift rfl (Wp.ret ⟨rfl, _, [], K2.mono (by omega), fun b hb => hb.1, t2, fun _ h => nomatch h⟩)
theorem wr2_w (hn : 1000000 < n) (K : At lo h db s B) (hB : B + u.length < 800000) (C : Clo lo h xb vb fb rb tb db x g fr u) :
  Does lo db h (world n (d + 4) 37 [.ptr vb 0, .ptr fb 0, .ptr tb 0] h) (errP s g (chA u)) (actD s g (chA u)) (B + u.length + 2) := by
 apply Does.of
 obtain ⟨h3, S3, e3, K3, t3, hS3⟩ := append_ok (n := n) (d := d) (z := g) (u := u) hn K (by omega)
 rw [w_vote_Box_Write_2]
 unfold vote_Box_Write_2
 exact Wp.obind (RowH.cell' C.kv rfl) (Wp.obind (nilC_ptr _ _) (Wp.obind (fldP_ptr _ _ _) (Wp.obind (RowH.cell' C.kx (show (boxC db x)[0 + 0]? = some (.ptr db 0) from rfl)) (Wp.obind (RowH.cell' C.kf rfl) (Wp.obind (avInt_int _ _) (Wp.obind (RowH.cell' C.kt rfl) (Wp.obind (avStr_str _) (Wp.callN e3 (Wp.obind (avInt_int _ _) (Wp.ret ⟨rfl, S3, K3, t3, hS3⟩))))))))))
theorem wr3_w (hn : 1000000 < n) (K : At lo h db s B) (hB : B < 800000) (C : Clo lo h xb vb fb rb tb db x g fr u) :
  Does lo db h (world n (d + 4) 38 [.ptr vb 0, .ptr fb 0] h) (refP s.p g) (synD s g) (B + 1) := by
 apply Does.of
 obtain ⟨h3, S3, e3, K3, t3, hS3⟩ := sync_ok (n := n) (d := d) (z := g) hn K (by omega)
 rw [w_vote_Box_Write_3]
 unfold vote_Box_Write_3
 exact Wp.obind (RowH.cell' C.kv rfl) (Wp.obind (nilC_ptr _ _) (Wp.obind (fldP_ptr _ _ _) (Wp.obind (RowH.cell' C.kx (show (boxC db x)[0 + 0]? = some (.ptr db 0) from rfl)) (Wp.obind (RowH.cell' C.kf rfl) (Wp.obind (avInt_int _ _) (Wp.callN e3 (Wp.obind (avInt_int _ _) (Wp.ret ⟨rfl, S3, K3, t3, hS3⟩))))))))
theorem wstep {call : CallF} {t60 : List AV} {fv : AV} {i : Nat} {e : Int} {h1 : AHeap} {k83 : AHeap → R} {fu : Nat} (hi : i < 3) (hix : opIndex Try.prog H 99 (some (.agg t60)) (some (.int .i64 (i : Int))) = some (.val fv, H)) (kv : RowH H vb TPB [.ptr xb 0]) (hc : dynC Try.prog call fv [] H = some (.ret (.int .i64 e), h1))
  (kv1 : RowH h1 vb TPB [.ptr xb 0]) (hvb : vb < h1.next) (kx1 : RowH h1 xb TBox (boxC db x)) (hne : vb ≠ xb)
  (y0 : e = 0 → ∀ H2, RowH H2 xb TBox (boxC db { x with br := 0 }) → Tch [xb] h1 H2 → H2.next = h1.next → Wp (vote_Box_Write_L0 call (.ptr vb 0) t60 k83 fu ((i : Int) + 1) H2) Q)
  (y1 : e ≠ 0 → ∀ H2, RowH H2 xb TBox (boxC db { x with br := e }) → Tch [xb] h1 H2 → H2.next = h1.next → Q (.ret (.int .i64 e)) H2) :
  Wp (vote_Box_Write_L0 call (.ptr vb 0) t60 k83 (fu + 1) (i : Int) H) Q := by
 rw [vote_Box_Write_L0_s]
 unfold vote_Box_Write_L0b
 have hre : reLoad Try.prog h1 TPB (.ptr vb 0) (.ptr xb 0) = true := reLoad_c (by kernel_rfl) (RowH.cell' kv1 rfl)
 refine Wp.lett (Wp.ift (by rw [decide_eq_true_eq]; omega) (Wp.outK hix (Wp.obind (RowH.cell' kv rfl) (Wp.callN hc (Wp.obind (avInt_int _ _) (Wp.chk (by rw [hre]; rfl) (Wp.obind (nilC_ptr _ _) (Wp.obind (fldP_ptr _ _ _) ?_))))))))
 refine Wp.st1 kx1 (show 0 + 7 < 8 by decide) rfl fun h2 kx2 t2 n2 => ?_
 have kx2' : RowH h2 xb TBox (boxC db { x with br := e }) := kx2
 have kv2 := kv1.tch t2 hvb (fun h => hne (List.mem_singleton.1 h))
 refine Wp.obind (RowH.cell' kv2 rfl) (Wp.obind (nilC_ptr _ _) (Wp.obind (fldP_ptr _ _ _) (Wp.obind (RowH.cell' kx2' (show (boxC db { x with br := e })[0 + 7]? = some (.int .i64 e) from rfl)) (Wp.obind (avInt_int _ _) (Wp.lett ?_)))))
 by_cases he : e = 0
 ·subst he
  exact Wp.iff (bne_f rfl) (Wp.lettw (by omega) (by omega) (y0 rfl h2 kx2' t2 n2))
 ·exact Wp.ift (bne_t he) (Wp.obind (RowH.cell' kv2 rfl) (Wp.obind (nilC_ptr _ _) (Wp.obind (fldP_ptr _ _ _) (Wp.obind (RowH.cell' kx2' (show (boxC db { x with br := e })[0 + 7]? = some (.int .i64 e) from rfl)) (Wp.obind (avInt_int _ _) (Wp.ret (y1 he h2 kx2' t2 n2)))))))
end
def refV (x : BoxS) (t f : Int) : Int := if x.br ≠ 0 then x.br else if balOk t f then (if mayB t f x.ne.t x.ne.f = true then 0 else 5) else 2
def nextE (x : BoxS) (t f : Int) : Ent := ⟨x.ne.c + 1, t, f⟩
def newX (x : BoxS) (t f : Int) : BoxS := { setM x (placeF x).toNat ((if placeN x = true then 0 else if placeF x = 0 then x.m0 else x.m1) + 1) with ne := nextE x t f, file := placeF x, br := 0 }
def wr (s : DS) (x : BoxS) (t f : Int) : Int × BoxS × DS :=
 if refV x t f ≠ 0 then (refV x t f, x, s) else if t = x.ne.t ∧ f = x.ne.f then (0, x, s) else if x.ne.c ≥ 4611686018427387904 then (5, x, s) else
 if (stpW s (placeF x) (placeN x) (frameB (entB (nextE x t f)))).1 ≠ 0 then ((stpW s (placeF x) (placeN x) (frameB (entB (nextE x t f)))).1, { x with br := (stpW s (placeF x) (placeN x) (frameB (entB (nextE x t f)))).1 }, (stpW s (placeF x) (placeN x) (frameB (entB (nextE x t f)))).2)
 else (0, newX x t f, (stpW s (placeF x) (placeN x) (frameB (entB (nextE x t f)))).2)
theorem place01 {x : BoxS} (hf : x.file = 0 ∨ x.file = 1) : placeF x = 0 ∨ placeF x = 1 := by
 unfold placeF
 by_cases h1 : x.ne.c = 0
 ·rw [if_pos h1]
  exact .inl rfl
 rw [if_neg h1]
 by_cases h2 : (if x.file = 0 then x.m0 else x.m1) < 8
 ·rw [if_pos h2]
  exact hf
 rw [if_neg h2]
 by_cases h3 : x.file = 0
 ·rw [if_pos h3]
  exact .inr rfl
 ·rw [if_neg h3]
  exact .inl rfl
theorem dynC_clo {P : Program} {call : CallF} {f : FuncId} {caps : List AV} {h : AHeap} (hb : hasBody P f = true) : dynC P call (.fn f [] caps) [] h = call f caps h := by
 have e : callV P h [] (some (.fn f [] caps)) = some (.call f caps, h) := by
  show (if hasBody P f = true then some (ANext.call f ([] ++ [] ++ caps), h) else _) = _
  rw [if_pos hb]
  rfl
 unfold dynC
 rw [e]
theorem refV_ok {x : BoxS} {t f : Int} (h : refV x t f = 0) : x.br = 0 ∧ balOk t f ∧ mayB t f x.ne.t x.ne.f = true := by
 unfold refV at h
 split at h
 ·rename_i h1
  exact absurd h h1
 ·rename_i h1
  split at h
  ·rename_i h2
   split at h
   ·rename_i h3
    exact ⟨by simpa using h1, h2, h3⟩
   ·omega
  ·omega
section
variable {lo : Nat → Prop} {n d D db xb B : Nat} {h : AHeap} {s : DS} {x : BoxS} {t f : Int}
set_option maxHeartbeats 2000000 in
theorem write_w (hn : 1000000 < n) (K : At lo h db s B) (hB : B < 700000) (kx : RowH h xb TBox (boxC db x)) (hxb : xb < h.next) (hxl : ¬ lo xb) (hf : x.file = 0 ∨ x.file = 1) (hc0 : 0 ≤ x.ne.c) (hm0 : 0 ≤ x.m0 ∧ x.m0 < 1000000) (hm1 : 0 ≤ x.m1 ∧ x.m1 < 1000000) :
  ∃ lo' h' S, world n (d + 6) 11 [.ptr xb 0, .agg [.int .i64 t, .int .i64 f]] h = some (.ret (.int .i64 (wr s x t f).1), h') ∧ At lo' h' db (wr s x t f).2.2 (B + 40) ∧ Less lo lo' ∧ RowH h' xb TBox (boxC db (wr s x t f).2.1) ∧ ¬ lo' xb ∧ Tch S h h' ∧ ∀ b ∈ S, lo b ∨ b = xb := by
 suffices hK : Wp (world n (d + 6) 11 [.ptr xb 0, .agg [.int .i64 t, .int .i64 f]] h) fun r h' => r = .ret (.int .i64 (wr s x t f).1) ∧ ∃ lo' S, At lo' h' db (wr s x t f).2.2 (B + 40) ∧ Less lo lo' ∧ RowH h' xb TBox (boxC db (wr s x t f).2.1) ∧ ¬ lo' xb ∧ Tch S h h' ∧ ∀ b ∈ S, lo b ∨ b = xb by
  obtain ⟨_, h', e, rfl, lo', S, k⟩ := hK
  exact ⟨lo', h', S, e, k⟩
 have hx := K.ex
 rw [w_vote_Box_Write]
 unfold vote_Box_Write
 refine Wp.outK (v := .ptr h.next 0) (h1 := newH h TPB [.ptr xb 0]) (by rfl) ?_
 obtain ⟨h2, hh2⟩ : ∃ h2, h2 = newH h TPB [.ptr xb 0] := ⟨_, rfl⟩
 have kv2 : RowH h2 h.next TPB [.ptr xb 0] := by rw [hh2]; exact RowH.new _ _ _
 have lv2 : h.next < h2.next := by rw [hh2]; exact lt_newH _ _ _
 have t2 : Tch [] h h2 := by rw [hh2]; exact Tch.newH _ _ _ _
 rw [← hh2]
 refine Wp.mbox (Mem.nil [] h2) rfl fun h4 M4 => ?_
 have kb4 := M4.at0.1
 have lb4 := M4.at0.2.1
 have t4 := M4.tch
 have kv4 := kv2.tch t4 lv2 (fun h => nomatch h)
 have T4 := t2.trans t4
 have kx4 := kx.tch T4 hxb (fun h => nomatch h)
 have n4 := t4.1
 obtain ⟨h10, e10, t10⟩ := refuses_v (n := n) (d := d + 3) (t := t) (f := f) kx4 (by omega)
 have n10 := t10.1
 have kb10 := kb4.tch t10 lb4 (fun h => nomatch h)
 have kv10 := kv4.tch t10 (by omega) (fun h => nomatch h)
 have kx10 := kx4.tch t10 (by omega) (fun h => nomatch h)
 have T10 := T4.trans t10
 have K10 := K.part T10 (fun _ h => nomatch h)
 have nl10 : ¬ (fun b => lo b ∧ (b < h.next ∨ h10.next ≤ b)) xb := fun hh => hxl hh.1
 have e10' : world n (d + 5) 31 [.ptr xb 0, .agg [.int .i64 t, .int .i64 f]] h4 = some (.ret (.int .i64 (refV x t f)), h10) := e10
 refine Wp.obind (RowH.cell' kv4 rfl) (Wp.lr0 M4 rfl (Wp.callN e10' (Wp.obind (avInt_int _ _) (Wp.lettG fun k14 e14 => Wp.lett ?_))))
 by_cases c1 : refV x t f = 0
 case neg =>
  refine Wp.ift (bne_t c1) ?_
  have hw : wr s x t f = (refV x t f, x, s) := if_pos c1
  rw [e14, hw]
  exact Wp.ift rfl (Wp.ret ⟨rfl, _, [], K10.mono (by omega), fun b hb => hb.1, kx10, nl10, T10, fun _ h => nomatch h⟩)
 obtain ⟨hbr, hbo, _⟩ := refV_ok c1
 refine Wp.iff (bne_f c1) (Wp.obind (RowH.ldAll kb10 rfl) (Wp.obind (RowH.cell' kv10 rfl) (Wp.obind (nilC_ptr _ _) (Wp.obind (fldP_ptr _ _ _) (Wp.obind (fldP_ptr _ _ _) (Wp.obind (kx10.ld (o := 0 + 3 + 1) (n := 2) (show 0 + 3 + 1 + 2 ≤ 8 by decide)) (Wp.obind (eqBal t f x.ne.t x.ne.f) ?_)))))))
 by_cases c2 : t = x.ne.t ∧ f = x.ne.f
 ·have hw : wr s x t f = (0, x, s) := (if_neg (by simpa using c1)).trans (if_pos c2)
  rw [decide_eq_true c2, e14, hw]
  refine Wp.ift rfl (Wp.ret ⟨by rw [c1], _, [], K10.mono (by omega), fun b hb => hb.1, kx10, nl10, T10, fun _ h => nomatch h⟩)
 rw [decide_eq_false c2, e14]
 refine Wp.iff rfl (Wp.obind (RowH.cell' kv10 rfl) (Wp.obind (nilC_ptr _ _) (Wp.obind (fldP_ptr _ _ _) (Wp.obind (fldP_ptr _ _ _) (Wp.obind (RowH.cell' kx10 (show (boxC db x)[0 + 3 + 0]? = some (.int .i64 x.ne.c) from rfl)) (Wp.obind (avInt_int _ _) (Wp.lett ?_)))))))
 by_cases c3 : x.ne.c ≥ 4611686018427387904
 ·have hw : wr s x t f = (5, x, s) := (if_neg (by simpa using c1)).trans ((if_neg c2).trans (if_pos c3))
  rw [hw]
  exact Wp.ift (decide_eq_true c3) (Wp.ret ⟨rfl, _, [], K10.mono (by omega), fun b hb => hb.1, kx10, nl10, T10, fun _ h => nomatch h⟩)
 have hyo : EntOk (nextE x t f) := ⟨by show (1 : Int) ≤ x.ne.c + 1; omega, by show x.ne.c + 1 ≤ 4611686018427387904; omega, hbo⟩
 obtain ⟨u, hu⟩ : ∃ u, frameB (entB (nextE x t f)) = u := ⟨_, rfl⟩
 have hul : u.length = 29 := by rw [← hu, frameB_length, entB_len]
 have hw : wr s x t f = if (stpW s (placeF x) (placeN x) u).1 ≠ 0 then ((stpW s (placeF x) (placeN x) u).1, { x with br := (stpW s (placeF x) (placeN x) u).1 }, (stpW s (placeF x) (placeN x) u).2) else (0, newX x t f, (stpW s (placeF x) (placeN x) u).2) := by
  unfold wr
  rw [if_neg (by simpa using c1), if_neg c2, if_neg c3, hu]
 rw [hw]
 refine Wp.iff (decide_eq_false c3) (Wp.obind (RowH.cell' kv10 rfl) (Wp.obind (nilC_ptr _ _) (Wp.obind (fldP_ptr _ _ _) (Wp.obind (fldP_ptr _ _ _) (Wp.obind (RowH.cell' kx10 (show (boxC db x)[0 + 3 + 0]? = some (.int .i64 x.ne.c) from rfl)) (Wp.obind (avInt_int _ _) (Wp.lettw (by omega) (by omega) (Wp.obind (RowH.ldAll kb10 rfl) (Wp.obind (a := entC (nextE x t f)) (by kernel_rfl) (Wp.mnew (Mem.nil [] h10) fun h37 M37 => ?_))))))))))
 rw [newP_eq h10]
 refine Wp.sa0 M37 rfl rfl rfl fun h39 M39 => Wp.lr0 M39 rfl ?_
 have t39 := M39.tch
 have ky39 := M39.at0.1
 have ly39 := M39.at0.2.1
 have n39 := t39.1
 have hx39 : memB 5 h39.ex = false := by rw [t39.2.1, T10.2.1, hx]; rfl
 have hfr := eframe_w (n := n) (d := d) (h := h39) hyo (by omega) hx39
 rw [hu] at hfr
 refine Wp.callN hfr (Wp.obind (extT_0 _ _) (Wp.obind (avStr_str _) (Wp.obind (extT_1 _ _ _) (Wp.obind (avInt_int _ _) (Wp.mnew M39 fun h49 M49 => ?_)))))
 rw [newP_eq h39]
 refine Wp.sa0 M49 rfl rfl rfl fun h51 M51 => Wp.lett (Wp.iff (bne_f rfl) ?_)
 have t51 := M51.tch
 have kt51 := M51.at0.1
 have lt51 := M51.at0.2.1
 have n51 := t51.1
 have kv51 := kv10.tch t51 (by omega) (fun h => nomatch h)
 have kx51 := kx10.tch t51 (by omega) (fun h => nomatch h)
 refine Wp.obind (RowH.cell' kv51 rfl) (Wp.callN (place_w (n := n) (d := d + 4) kx51 hf) (Wp.obind (extT_0 _ _) (Wp.obind (avInt_int _ _) (Wp.obind (extT_1 _ _ _) (Wp.obind (avBool_bool _) (Wp.mnew M51 fun h65 M65 => Wp.mnew M65 fun h67 M67 => ?_))))))
 have l65 := M65.at0.2.1
 rw [newP_eq h51, newP_eq h65]
 refine Wp.sa1 M67 rfl rfl rfl fun h69 M69 => Wp.sa0 M69 rfl rfl rfl fun h71 M71 => Wp.obind (a := [.fn 34 [] [.ptr h65.next 0, .ptr h.next 0, .ptr h51.next 0], .fn 37 [] [.ptr h.next 0, .ptr h51.next 0, .ptr h39.next 0], .fn 38 [] [.ptr h.next 0, .ptr h51.next 0]]) (by kernel_rfl) (Wp.mnew M71 fun h75 M75 => ?_)
 rw [newP_eq h71]
 refine Wp.sa0 M75 rfl rfl rfl fun h77 M77 => Wp.lr0 M77 rfl (Wp.lettG fun k83 e83 => ?_)
 have t77 := M77.tch
 have n77 := t77.1
 have kr77 := M77.at1.1
 have lr77 := M77.at1.2.1
 have kf77 := (Mem.at (xs := [_, _]) M77).1
 have lf77 := (Mem.at (xs := [_, _]) M77).2.1
 have kt77 := (Mem.at (xs := [_, _, _]) M77).1
 have lt77 := (Mem.at (xs := [_, _, _]) M77).2.1
 have ky77 := (Mem.at (xs := [_, _, _, _]) M77).1
 have ly77 := (Mem.at (xs := [_, _, _, _]) M77).2.1
 have kv77 := kv10.tch t77 (by omega) (fun h => nomatch h)
 have kx77 := kx10.tch t77 (by omega) (fun h => nomatch h)
 have T77 := T10.trans t77
 obtain ⟨lo7, hlo7⟩ : ∃ lo7 : Nat → Prop, lo7 = fun b => lo b ∧ (b < h.next ∨ h77.next ≤ b) := ⟨_, rfl⟩
 have K77 : At lo7 h77 db s B := by rw [hlo7]; exact K.part T77 (fun _ h => nomatch h)
 have L7 : Less lo lo7 := fun b hb => by rw [hlo7] at hb; exact hb.1
 have new7 : ∀ b, h.next ≤ b → b < h77.next → ¬ lo7 b := fun b h1 h2 hh => by
  rw [hlo7] at hh
  rcases hh.2 with h3 | h3 <;> omega
 have nx7 : ¬ lo7 xb := fun hh => hxl (L7 _ hh)
 have hg := place01 hf
 have g51 : h10.next ≤ h51.next := n51
 have g65 : h51.next < h65.next := l65
 have C7 : Clo lo7 h77 xb h.next h51.next h65.next h39.next db x (placeF x) (placeN x) u := ⟨kx77, kv77, kf77, kr77, kt77, ⟨by omega, nx7⟩, ⟨by omega, new7 _ (by omega) (by omega)⟩, ⟨lf77, new7 _ (by omega) lf77⟩, ⟨lr77, new7 _ (by omega) lr77⟩, ⟨lt77, new7 _ (by omega) lt77⟩⟩
 have hny : ¬ lo7 h10.next := new7 _ (by omega) ly77
 obtain ⟨m, hm⟩ : ∃ m, n = m + 1 + 1 + 1 + 1 := ⟨n - 4, by omega⟩
 -- the first step
 obtain ⟨lo8, h8, S8, e8, K8, L8, t8, hS8⟩ := wr1_w (d := d + 1) hn K77 (by omega) C7 hg
 have n8 := t8.1
 have C8 := C7.tch t8 hS8 L8
 have ky8 := ky77.tch t8 ly77 (fun hm => hny (hS8 _ hm))
 have T8 : Tch (xb :: S8) h h8 := (T77.mono fun _ h => nomatch h).trans (t8.mono fun b hb => .inl (List.mem_cons_of_mem _ hb))
 have fin : ∀ (H : AHeap) (lo' : Nat → Prop) (S : List Nat) (e : Int) (x' : BoxS) (s' : DS) (b : Nat), Tch (xb :: S) h H → (∀ b ∈ S, lo b) → At lo' H db s' (B + 40) → Less lo7 lo' → RowH H xb TBox (boxC db x') → (fun r h' => r = ARes.ret (.int .i64 e) ∧ ∃ lo' S, At lo' h' db s' (B + 40) ∧ Less lo lo' ∧ RowH h' xb TBox (boxC db x') ∧ ¬ lo' xb ∧ Tch S h h' ∧ ∀ b ∈ S, lo b ∨ b = xb) (.ret (.int .i64 e)) H := fun H lo' S e x' s' _ T hS K' L' k' =>
  ⟨rfl, lo', xb :: S, K', fun b hb => L7 _ (L' _ hb), k', fun hh => nx7 (L' _ hh), T, fun b hb => by
   rcases List.mem_cons.1 hb with rfl | hb
   ·exact .inr rfl
   ·exact .inl (hS b hb)⟩
 rw [show vote_Box_Write_L0 (world n (d + 5)) (.ptr h.next 0) [.fn 34 [] [.ptr h65.next 0, .ptr h.next 0, .ptr h51.next 0], .fn 37 [] [.ptr h.next 0, .ptr h51.next 0, .ptr h39.next 0], .fn 38 [] [.ptr h.next 0, .ptr h51.next 0]] k83 n 0 h77 = vote_Box_Write_L0 (world n (d + 5)) (.ptr h.next 0) [.fn 34 [] [.ptr h65.next 0, .ptr h.next 0, .ptr h51.next 0], .fn 37 [] [.ptr h.next 0, .ptr h51.next 0, .ptr h39.next 0], .fn 38 [] [.ptr h.next 0, .ptr h51.next 0]] k83 (m + 1 + 1 + 1 + 1) ((0 : Nat) : Int) h77 from by rw [← hm]; rfl]
 refine wstep (h1 := h8) (e := (stp1 s (placeF x) (placeN x)).1) (x := x) (by decide) (by kernel_rfl) kv77 ((dynC_clo (by kernel_rfl)).trans e8) C8.kv C8.lv.1 C8.kx (by omega) (fun z1 H2 kx2 u2 m2 => ?_) (fun z1 H2 kx2 u2 m2 => ?_)
 case refine_2 =>
  have hs : stpW s (placeF x) (placeN x) u = stp1 s (placeF x) (placeN x) := if_pos z1
  rw [hs, if_pos z1]
  exact fin H2 lo8 S8 _ _ _ 0 (T8.trans (u2.mono fun b hb => .inl (by rw [List.mem_singleton.1 hb]; exact List.mem_cons_self ..))) (fun b hb => L7 _ (hS8 b hb)) ((K8.tch u2 fun b hb => .inl (by rw [List.mem_singleton.1 hb]; exact C8.lx.2)).mono (by omega)) L8 kx2
 -- the second
 have hx0 : ({ x with br := 0 } : BoxS) = x := by
  obtain ⟨a, b, c, e, g⟩ := x
  have : g = 0 := hbr
  subst this
  rfl
 rw [hx0] at kx2
 have C9 : Clo lo8 H2 xb h.next h51.next h65.next h39.next db x (placeF x) (placeN x) u := by
  have m1 : ∀ {a : Nat}, h.next ≤ a → a ∉ [xb] := fun h h2 => by have := List.mem_singleton.1 h2; omega
  exact ⟨kx2, C8.kv.tch u2 C8.lv.1 (m1 (by omega)), C8.kf.tch u2 C8.lf.1 (m1 (by omega)), C8.kr.tch u2 C8.lr.1 (m1 (by omega)), C8.kt.tch u2 C8.lt.1 (m1 (by omega)), ⟨by rw [m2]; exact C8.lx.1, C8.lx.2⟩, ⟨by rw [m2]; exact C8.lv.1, C8.lv.2⟩, ⟨by rw [m2]; exact C8.lf.1, C8.lf.2⟩, ⟨by rw [m2]; exact C8.lr.1, C8.lr.2⟩, ⟨by rw [m2]; exact C8.lt.1, C8.lt.2⟩⟩
 have K9 := K8.tch u2 fun b hb => .inl (by rw [List.mem_singleton.1 hb]; exact C8.lx.2)
 have ky9 := ky8.tch u2 (by omega) (fun h => by have := List.mem_singleton.1 h; omega)
 have T9 : Tch (xb :: S8) h H2 := T8.trans (u2.mono fun b hb => .inl (by rw [List.mem_singleton.1 hb]; exact List.mem_cons_self ..))
 obtain ⟨hA, SA, eA, KA, tA, hSA⟩ := wr2_w (d := d + 1) hn K9 (by omega) C9
 have nA := tA.1
 have CA := C9.tch tA hSA (fun _ h => h)
 have kyA := ky9.tch tA (by omega) (fun hm => hny (L8 _ (hSA _ hm)))
 have TA : Tch (xb :: (S8 ++ SA)) h hA := (T9.mono fun b hb => .inl (by
  rcases List.mem_cons.1 hb with rfl | hb
  ·exact List.mem_cons_self ..
  ·exact List.mem_cons_of_mem _ (List.mem_append_left _ hb))).trans (tA.mono fun b hb => .inl (List.mem_cons_of_mem _ (List.mem_append_right _ hb)))
 have hSS : ∀ b ∈ S8 ++ SA, lo b := fun b hb => (List.mem_append.1 hb).elim (fun h => L7 _ (hS8 b h)) fun h => L7 _ (L8 _ (hSA b h))
 refine wstep (i := 1) (h1 := hA) (e := errP (stp1 s (placeF x) (placeN x)).2 (placeF x) (chA u)) (x := x) (by decide) (by kernel_rfl) C9.kv ((dynC_clo (by kernel_rfl)).trans eA) CA.kv CA.lv.1 CA.kx (by omega) (fun z2 H3 kx3 u3 m3 => ?_) (fun z2 H3 kx3 u3 m3 => ?_)
 case refine_2 =>
  have hs : stpW s (placeF x) (placeN x) u = (errP (stp1 s (placeF x) (placeN x)).2 (placeF x) (chA u), actD (stp1 s (placeF x) (placeN x)).2 (placeF x) (chA u)) := (if_neg (by simpa using z1)).trans (if_pos z2)
  rw [hs, if_pos z2]
  exact fin H3 lo8 (S8 ++ SA) _ _ _ 0 (TA.trans (u3.mono fun b hb => .inl (by rw [List.mem_singleton.1 hb]; exact List.mem_cons_self ..))) hSS ((KA.tch u3 fun b hb => .inl (by rw [List.mem_singleton.1 hb]; exact CA.lx.2)).mono (by omega)) L8 kx3
 -- the third
 rw [hx0] at kx3
 have CB : Clo lo8 H3 xb h.next h51.next h65.next h39.next db x (placeF x) (placeN x) u := by
  have m1 : ∀ {a : Nat}, h.next ≤ a → a ∉ [xb] := fun h h2 => by have := List.mem_singleton.1 h2; omega
  exact ⟨kx3, CA.kv.tch u3 CA.lv.1 (m1 (by omega)), CA.kf.tch u3 CA.lf.1 (m1 (by omega)), CA.kr.tch u3 CA.lr.1 (m1 (by omega)), CA.kt.tch u3 CA.lt.1 (m1 (by omega)), ⟨by rw [m3]; exact CA.lx.1, CA.lx.2⟩, ⟨by rw [m3]; exact CA.lv.1, CA.lv.2⟩, ⟨by rw [m3]; exact CA.lf.1, CA.lf.2⟩, ⟨by rw [m3]; exact CA.lr.1, CA.lr.2⟩, ⟨by rw [m3]; exact CA.lt.1, CA.lt.2⟩⟩
 have KB := KA.tch u3 fun b hb => .inl (by rw [List.mem_singleton.1 hb]; exact CA.lx.2)
 have kyB := kyA.tch u3 (by omega) (fun h => by have := List.mem_singleton.1 h; omega)
 have TB : Tch (xb :: (S8 ++ SA)) h H3 := TA.trans (u3.mono fun b hb => .inl (by rw [List.mem_singleton.1 hb]; exact List.mem_cons_self ..))
 obtain ⟨hC, SC, eC, KC, tC, hSC⟩ := wr3_w (d := d + 1) hn KB (by omega) CB
 have nC := tC.1
 have CC := CB.tch tC hSC (fun _ h => h)
 have kyC := kyB.tch tC (by omega) (fun hm => hny (L8 _ (hSC _ hm)))
 have TC : Tch (xb :: (S8 ++ SA ++ SC)) h hC := (TB.mono fun b hb => .inl (by
  rcases List.mem_cons.1 hb with rfl | hb
  ·exact List.mem_cons_self ..
  ·exact List.mem_cons_of_mem _ (List.mem_append_left _ hb))).trans (tC.mono fun b hb => .inl (List.mem_cons_of_mem _ (List.mem_append_right _ hb)))
 have hSS2 : ∀ b ∈ S8 ++ SA ++ SC, lo b := fun b hb => (List.mem_append.1 hb).elim (hSS b) fun h => L7 _ (L8 _ (hSC b h))
 have hs3 : stpW s (placeF x) (placeN x) u = (refP (actD (stp1 s (placeF x) (placeN x)).2 (placeF x) (chA u)).p (placeF x), synD (actD (stp1 s (placeF x) (placeN x)).2 (placeF x) (chA u)) (placeF x)) := (if_neg (by simpa using z1)).trans (if_neg (by simpa using z2))
 rw [hs3]
 refine wstep (i := 2) (h1 := hC) (e := refP (actD (stp1 s (placeF x) (placeN x)).2 (placeF x) (chA u)).p (placeF x)) (x := x) (by decide) (by kernel_rfl) CB.kv ((dynC_clo (by kernel_rfl)).trans eC) CC.kv CC.lv.1 CC.kx (by omega) (fun z3 H4 kx4' u4 m4 => ?_) (fun z3 H4 kx4' u4 m4 => ?_)
 case refine_2 =>
  rw [if_pos z3]
  exact fin H4 lo8 (S8 ++ SA ++ SC) _ _ _ 0 (TC.trans (u4.mono fun b hb => .inl (by rw [List.mem_singleton.1 hb]; exact List.mem_cons_self ..))) hSS2 ((KC.tch u4 fun b hb => .inl (by rw [List.mem_singleton.1 hb]; exact CC.lx.2)).mono (by omega)) L8 kx4'
 -- all done
 rw [if_neg (by simpa using z3)]
 rw [hx0] at kx4'
 have m1 : ∀ {a : Nat}, h.next ≤ a → a ∉ [xb] := fun h h2 => by have := List.mem_singleton.1 h2; omega
 have kvD := CC.kv.tch u4 CC.lv.1 (m1 (by omega))
 have kfD := CC.kf.tch u4 CC.lf.1 (m1 (by omega))
 have krD := CC.kr.tch u4 CC.lr.1 (m1 (by omega))
 have kyD := kyC.tch u4 (by omega) (m1 (by omega))
 have KD := KC.tch u4 fun b hb => .inl (by rw [List.mem_singleton.1 hb]; exact CC.lx.2)
 have TD : Tch (xb :: (S8 ++ SA ++ SC)) h H4 := TC.trans (u4.mono fun b hb => .inl (by rw [List.mem_singleton.1 hb]; exact List.mem_cons_self ..))
 have lxD : xb < H4.next := by rw [m4]; exact CC.lx.1
 rw [vote_Box_Write_L0_s]
 unfold vote_Box_Write_L0b
 refine Wp.lett (Wp.iff rfl ?_)
 rw [e83]
 have hM : 0 ≤ (if placeN x = true then (0 : Int) else if placeF x = 0 then x.m0 else x.m1) ∧ (if placeN x = true then (0 : Int) else if placeF x = 0 then x.m0 else x.m1) < 1000000 := by
  split
  ·omega
  ·split
   ·exact hm0
   ·exact hm1
 obtain ⟨g, hgn, hg2⟩ : ∃ g : Nat, placeF x = (g : Int) ∧ (g = 0 ∨ g = 1) := by
  rcases hg with h | h
  ·exact ⟨0, h, .inl rfl⟩
  ·exact ⟨1, h, .inr rfl⟩
 have hix : ∀ b, idxA 2 1 (.ptr b (0 + 1)) (placeF x) = some (.ptr b (1 + g)) := fun b => by
  rw [hgn]
  rcases hg2 with rfl | rfl <;> rfl
 refine Wp.obind (RowH.cell' krD rfl) (Wp.obind (avBool_bool _) (Wp.lettG fun k89 e89 => ?_))
 have last : ∀ (H5 : AHeap) (x5 : BoxS), RowH H5 xb TBox (boxC db x5) → Tch [xb] H4 H5 → H5.next = H4.next → x5 = (if placeN x = true then setM x g 0 else x) → Wp (k89 H5) fun r h' => r = .ret (.int .i64 0) ∧ ∃ lo' S, At lo' h' db (synD (actD (stp1 s (placeF x) (placeN x)).2 (placeF x) (chA u)) (placeF x)) (B + 40) ∧ Less lo lo' ∧ RowH h' xb TBox (boxC db (newX x t f)) ∧ ¬ lo' xb ∧ Tch S h h' ∧ ∀ b ∈ S, lo b ∨ b = xb := fun H5 x5 kx5 t5 n5 hx5 => by
  have kv5 := kvD.tch t5 (by omega) (m1 (by omega))
  have kf5 := kfD.tch t5 (by omega) (m1 (by omega))
  have ky5 := kyD.tch t5 (by omega) (m1 (by omega))
  have hcell : (boxC db x5)[1 + g]? = some (.int .i64 (if placeN x = true then (0 : Int) else if placeF x = 0 then x.m0 else x.m1)) := by
   rw [hx5, hgn]
   rcases hg2 with rfl | rfl
   ·cases placeN x <;> rfl
   ·cases placeN x <;> rfl
  rw [e89]
  refine Wp.obind (RowH.cell' kv5 rfl) (Wp.obind (RowH.cell' kf5 rfl) (Wp.obind (avInt_int _ _) (Wp.obind (nilC_ptr _ _) (Wp.obind (fldP_ptr _ _ _) (Wp.obind (hix xb) (Wp.obind (RowH.cell' kx5 hcell) (Wp.obind (avInt_int _ _) (Wp.lettw (by omega) (by omega) (Wp.obind (nilC_ptr _ _) (Wp.obind (fldP_ptr _ _ _) (Wp.obind (hix xb) ?_)))))))))))
  refine Wp.st1 kx5 (show 1 + g < 8 by omega) rfl fun h6 kx6 t6 n6 => ?_
  have kv6 := kv5.tch t6 (by omega) (m1 (by omega))
  have kf6 := kf5.tch t6 (by omega) (m1 (by omega))
  have ky6 := ky5.tch t6 (by omega) (m1 (by omega))
  have kx6' : RowH h6 xb TBox (boxC db (setM x5 g ((if placeN x = true then (0 : Int) else if placeF x = 0 then x.m0 else x.m1) + 1))) := by
   unfold setM
   rcases hg2 with rfl | rfl
   ·exact kx6
   ·exact kx6
  refine Wp.obind (RowH.cell' kv6 rfl) (Wp.obind (RowH.cell' kv6 rfl) (Wp.obind (RowH.ldAll ky6 rfl) (Wp.obind (RowH.cell' kf6 rfl) (Wp.obind (avInt_int _ _) (Wp.obind (nilC_ptr _ _) (Wp.obind (fldP_ptr _ _ _) ?_))))))
  refine Wp.stN kx6' rfl (show 0 + 3 + 3 ≤ 8 by decide) rfl fun h7 kx7 t7 n7 => ?_
  have kv7 := kv6.tch t7 (by omega) (m1 (by omega))
  have kf7 := kf6.tch t7 (by omega) (m1 (by omega))
  have r1 : reLoad Try.prog h7 TI3 (.ptr h51.next 0) (.int .i64 (placeF x)) = true := reLoad_c (by kernel_rfl) (RowH.cell' kf7 rfl)
  have r2 : reLoad Try.prog h7 TPB (.ptr h.next 0) (.ptr xb 0) = true := reLoad_c (by kernel_rfl) (RowH.cell' kv7 rfl)
  refine Wp.chk (by rw [r1, r2]; rfl) (Wp.obind (nilC_ptr _ _) (Wp.obind (fldP_ptr _ _ _) (Wp.st1 kx7 (show 0 + 6 < 8 by decide) rfl fun h8' kx8 t8' n8' => ?_)))
  have hfin : boxC db (newX x t f) = boxC db { setM x5 g ((if placeN x = true then (0 : Int) else if placeF x = 0 then x.m0 else x.m1) + 1) with ne := nextE x t f, file := placeF x } := by
   unfold newX boxC
   rw [hx5, hgn, Int.toNat_natCast]
   rcases hg2 with rfl | rfl
   ·cases placeN x <;> (simp only [setM]; simp [hbr])
   ·cases placeN x <;> (simp only [setM]; simp [hbr])
  refine Wp.ret ⟨rfl, lo8, xb :: (S8 ++ SA ++ SC), ?_, fun b hb => L7 _ (L8 _ hb), ?_, CC.lx.2, ?_, fun b hb => ?_⟩
  ·exact ((((KD.tch t5 fun b hb => .inl (by rw [List.mem_singleton.1 hb]; exact CC.lx.2)).tch t6 fun b hb => .inl (by rw [List.mem_singleton.1 hb]; exact CC.lx.2)).tch t7 fun b hb => .inl (by rw [List.mem_singleton.1 hb]; exact CC.lx.2)).tch t8' fun b hb => .inl (by rw [List.mem_singleton.1 hb]; exact CC.lx.2)).mono (by omega)
  ·rw [hfin]
   exact kx8
  ·have ms : ∀ b ∈ [xb], b ∈ xb :: (S8 ++ SA ++ SC) ∨ h.next ≤ b := fun b hb => .inl (by rw [List.mem_singleton.1 hb]; exact List.mem_cons_self ..)
   exact (((TD.trans' t5 ms).trans' t6 ms).trans' t7 ms).trans' t8' ms
  ·rcases List.mem_cons.1 hb with rfl | hb
   ·exact .inr rfl
   ·exact .inl (hSS2 b hb)
 cases hpn : placeN x with
 | true =>
  refine Wp.ift rfl (Wp.obind (RowH.cell' kvD rfl) (Wp.obind (RowH.cell' kfD rfl) (Wp.obind (avInt_int _ _) (Wp.obind (nilC_ptr _ _) (Wp.obind (fldP_ptr _ _ _) (Wp.obind (hix xb) (Wp.st1 kx4' (show 1 + g < 8 by omega) rfl fun h5 kx5 t5 n5 => ?_)))))))
  rw [hpn] at last
  refine last h5 (setM x g 0) ?_ t5 n5 (if_pos rfl).symm
  unfold setM
  rcases hg2 with rfl | rfl
  ·exact kx5
  ·exact kx5
 | false =>
  rw [hpn] at last
  exact Wp.iff rfl (last H4 x kx4' (Tch.refl _ _) rfl (if_neg (by decide)).symm)
end
end Go.Proofs.Yteecmjmglmpbpaa
