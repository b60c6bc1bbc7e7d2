/- What snapKept_proved stands on, part 7 of 8. -/
import Derived.Test.YtpnccmlajhhpdaaSK6
import Derived.OpenShut
import Derived.LaidMore
namespace Go.Proofs.Ytpnccmlajhhpdaa.Abs
noncomputable section
open Go.RowKit
inductive KI where
 | code (p : List Nat)
 | inLoop (p : List Nat)
 | inBlock (id : Nat)
 | ops (p : List Nat) (j : Nat)
structure MF where
 f : FuncId
 N : Nat
 a : AAct
 k : List KI
structure MS where
 top : MF
 st : List (Option Tmp × MF)
 h : AHeap
structure LF where
 f : FuncId
 N : Nat
 l : Fr
 ds : List (FuncId × List AV × List AV)
 k : List KI
inductive LO where
 | row (l : List AV) (e : TypeId)
 | map (es : List (AV × AV))
 | glob (l : List AV)
 | dfr
structure LS where
 top : LF
 st : List (Option Tmp × LF)
 next : Nat
 ex : List Nat
 obs : List (Nat × LO)
def LO.obj : LO → AObj
 | .row l e => rowOf l e
 | .map es => .map es
 | .glob l => .glob (T.put .e 0 l)
 | .dfr => .obj .dfr
def obTree : List (Nat × LO) → T AObj
 | [] => .e
 | (b, o) :: r => (obTree r).set b o.obj
def LF.mf (x : LF) : MF := ⟨x.f, x.N, ⟨x.l.tree, x.ds⟩, x.k⟩
def LS.ms (x : LS) : MS := ⟨x.top.mf, x.st.map fun y => (y.1, y.2.mf), ⟨x.next, x.ex, obTree x.obs⟩⟩
end
end Go.Proofs.Ytpnccmlajhhpdaa.Abs
namespace Go.Proofs.Ytpnccmlajhhpdaa.Abs
noncomputable section
open Go.RowKit
section
variable {P : Program} {n : Nat} {F : Fence}
end
section
variable {P : Program}
def LeavesX (P : Program) (fn : Func) (tmps : Array Value) (R : Ending → World → Prop) : List Deferred → FrameMode → World → Prop
  | [], u, w => Leaves P fn tmps R [] u w
  | d :: ds, u, w => u ≠ .run ∧
      ((∃ r w', d.target = .collected r ∧ (Instr.takeDeferred r).run P w = .ok [] w' ∧ LeavesX P fn tmps R ds u w') ∨
       (∃ fv cap f args, d.target = .fn fv cap ∧ (invoke d.target d.args).run P w = .ok (.enter f args) w ∧
        CallsD P f args u w fun
          | .returned _, u', w' => LeavesX P fn tmps R ds (settle u') w'
          | .panicked chain, u', w' => LeavesX P fn tmps R ds (raised u' chain) w'
          | .outgrown, _, w' => R .outgrown w'))
def bodyPostX (P : Program) (fn : Func) (R : Ending → World → Prop) : Exit → Act → World → Prop
 | .normal, a, w | .ret, a, w => LeavesX P fn a.tmps R a.defers .returning w
 | .panic chain, a, w => LeavesX P fn a.tmps R a.defers (.panicking chain) w
 | .outgrown, _, w => R .outgrown w
 | _, _, _ => False
end
section
variable {P : Program} {w0 : Base} {R0 : Ending → World → Prop} {both : BothF} {lf : Nat}
def Bo (P : Program) (f : FuncId) (R : Ending → World → Prop) : Exit → Act → World → Prop := match P.funcs[f]? with
 | some fn => bodyPostX P fn R
 | none => fun _ _ _ => False
theorem Bo.ret {f : FuncId} {R : Ending → World → Prop} {a : Act} {w : World} (h : Bo P f R .normal a w) : Bo P f R .ret a w := by
 revert h
 unfold Bo
 cases P.funcs[f]? with
 | none => exact id
 | some fn => exact id
variable {c : Code} {Q : Exit → Act → World → Prop} {act : Act} {w : World}
end
end
end Go.Proofs.Ytpnccmlajhhpdaa.Abs
namespace Go.Proofs.Ytpnccmlajhhpdaa.Abs
noncomputable section
open Go.RowKit
end
end Go.Proofs.Ytpnccmlajhhpdaa.Abs
namespace Go.Proofs.Ytpnccmlajhhpdaa.Abs
noncomputable section
open Go.RowKit
section
variable {P : Program} {w0 : Base} {R0 : Ending → World → Prop} {both : BothF}
end
end
end Go.Proofs.Ytpnccmlajhhpdaa.Abs
namespace Go.Proofs.Ytpnccmlajhhpdaa.Abs
noncomputable section
open Go.RowKit
end
end Go.Proofs.Ytpnccmlajhhpdaa.Abs
namespace Go.Proofs.Ytpnccmlajhhpdaa.Abs
noncomputable section
open Go.RowKit
end
end Go.Proofs.Ytpnccmlajhhpdaa.Abs
namespace Go.Proofs.Ytpnccmlajhhpdaa.Abs
noncomputable section
open Go.RowKit
section
variable {H : Type} {enc : TypeId × Value → H} {P : Program} {W : World}
end
end
end Go.Proofs.Ytpnccmlajhhpdaa.Abs
namespace Go.Proofs.Ytpnccmlajhhpdaa
open Go.RowKit Abs
def numB : Nat → Nat → Bytes
 | 0, _ => []
 | w + 1, v => numB w (v / 256) ++ [UInt8.ofNat (v % 256)]
theorem numB_length : ∀ (w v : Nat), (numB w v).length = w
 | 0, _ => rfl
 | w + 1, v => by simp [numB, numB_length w]
theorem el37 : Abs.elemOf Try.prog 46 = some 5 := by kernel_rfl
theorem zero5 : zeroA Try.prog 5 = some (.int .u8 0) := by kernel_rfl
theorem cells5 : Try.prog.cellsOf 5 = 1 := by kernel_rfl
theorem fit5 : fitB Try.prog 5 1 = true := by kernel_rfl
theorem bytes37 : isBytes Try.prog 46 = true := by kernel_rfl
theorem str9 : isStr Try.prog 9 = true := by kernel_rfl
theorem set_rep (j : Nat) (x : UInt8) (rest : Bytes) : (bytesC (List.replicate (j + 1) 0 ++ rest)).set j (.int .u8 (x.toNat : Int)) = bytesC (List.replicate j 0 ++ (x :: rest)) := by
 have e : List.replicate (j + 1) (0 : UInt8) ++ rest = List.replicate j 0 ++ (0 :: rest) := by
  rw [List.replicate_succ', List.append_assoc]
  rfl
 rw [e]
 unfold bytesC
 rw [List.map_append, List.map_append, List.set_append_right _ _ (by simp)]
 simp
theorem byte_of (v : Nat) : ((UInt8.ofNat (v % 256)).toNat : Int) = ((v % 256 : Nat) : Int) := by
 rw [UInt8.toNat_ofNat']
 simp
section
variable {b n d : Nat} {k9 : AHeap → R}
theorem number_loop : ∀ (j f v : Nat) (h : AHeap) (rest : Bytes), j < f → j ≤ 8 → v < 18446744073709551616 → RowH h b 5 (bytesC (List.replicate j 0 ++ rest)) →
  ∃ h', wire_number_L0 (.sl b 0 (j + rest.length) 1) k9 f (v : Int) ((j : Int) - 1) h = k9 h' ∧ RowH h' b 5 (bytesC (numB j v ++ rest)) ∧ Tch [b] h h' ∧ h'.next = h.next
 | 0, f + 1, v, h, rest, _, _, _, k => by
  refine ⟨h, ?_, k, Tch.refl _ _, rfl⟩
  rw [wire_number_L0_s]
  unfold wire_number_L0b
  rw [lett_eq, decide_eq_false (by omega), ifB_false]
 | j + 1, f + 1, v, h, rest, hf, hj, hv, k => by
  obtain ⟨h1, q1, q2, q3, q4, q5⟩ := k.st1 (o := j) (v := .int .u8 ((v % 256 : Nat) : Int)) (by rw [bytesC_length]; simp; omega) rfl
  rw [← byte_of, set_rep] at q2
  obtain ⟨h2, p1, p2, p3, p4⟩ := number_loop j f (v / 256) h1 (UInt8.ofNat (v % 256) :: rest) (by omega) (by omega) (by omega) q2
  refine ⟨h2, ?_, by rw [numB, List.append_assoc]; exact p2, (tch_of (S := [b]) q3 q4 q5 (.inl (by simp))).trans p3, p4.trans q3⟩
  rw [wire_number_L0_s]
  unfold wire_number_L0b
  have e1 : IntKind.u8.wrap (v : Int) = ((v % 256 : Nat) : Int) := by rw [wrap_u8_mod]; omega
  have e2 : shrI .u64 (v : Int) 8 = some ((v / 256 : Nat) : Int) := by
   have : shrI .u64 (v : Int) 8 = some ((v : Int).fdiv 256) := rfl
   rw [this, Int.fdiv_eq_ediv_of_nonneg _ (by omega)]
   rfl
  have e3 : ((j + 1 : Nat) : Int) - 1 = (j : Int) := by omega
  have e4 : IntKind.i64.wrap ((j : Int) - 1) = (j : Int) - 1 := wrap_i64 (by omega) (by omega)
  rw [e3, lett_eq, decide_eq_true (by omega), ifB_true, lett_eq, idxP_sl (by omega), obind_val, e1, Nat.zero_add, Nat.mul_one, q1, obind_val, e2, obind_val, lett_eq, e4]
  rw [show j + 1 + rest.length = j + (UInt8.ofNat (v % 256) :: rest).length by simp; omega]
  exact p1
end
section
variable {n d : Nat} {h : AHeap}
theorem zeros_row (w : Nat) (h : AHeap) : RowH (newH h 5 (bytesC (List.replicate w 0))) h.next 5 (bytesC (List.replicate w 0 ++ [])) := by
 rw [List.append_nil]
 exact RowH.new _ _ _
theorem conv37 {h : AHeap} {b : Nat} {l : Bytes} (k : RowH h b 5 (bytesC l)) : opConv Try.prog h 46 9 (some (.sl b 0 l.length 1)) = some (.val (strA l), h) :=
 conv_row bytes37 str9 (by rw [k.part (by rw [bytesC_length]; omega), List.drop_zero, ← bytesC_length l, List.take_length])
theorem number_w {v w : Nat} (hn : 8 < n) (hw : w ≤ 8) (hv : v < 18446744073709551616) (hx : memB 5 h.ex = false) : world n (d + 1) 83 [.int .u64 (v : Int), .int .i64 (w : Int)] h = some (.ret (strA (numB w v)), h) := by
 rw [w_wire_number]
 unfold wire_number
 rw [make_bytes (k1 := .i64) (k2 := .i64) el37 zero5 cells5 fit5 hx (Nat.le_refl w) (by omega), outK_val, lett_eq, wrap_i64 (by omega) (by omega)]
 suffices hK : ∃ h', lett (fun (h_10 : AHeap) => outK (opConv Try.prog h_10 46 9 (some (.sl h.next 0 w 1))) fun v23 h_12 => obind (avStr v23) fun t23 => some (ARes.ret (strA t23), h_12)) (fun k9 => wire_number_L0 (.sl h.next 0 w 1) k9 n (v : Int) ((w : Int) - 1) (newH h 5 (bytesC (List.replicate w 0)))) = some (.ret (strA (numB w v)), h') ∧ Above h h' by
  obtain ⟨h', e, ha⟩ := hK
  rw [e]
  exact gcR_scal ha rfl
 obtain ⟨h', e1, e2, e3, e4⟩ := number_loop (b := h.next) (k9 := fun (h_10 : AHeap) => outK (opConv Try.prog h_10 46 9 (some (.sl h.next 0 w 1))) fun v23 h_12 => obind (avStr v23) fun t23 => some (ARes.ret (strA t23), h_12)) w n v (newH h 5 (bytesC (List.replicate w 0))) [] (by omega) hw hv (zeros_row w h)
 rw [List.append_nil] at e2
 have hc := conv37 e2
 rw [numB_length] at hc
 refine ⟨h', ?_, ((Tch.newH [] h 5 (bytesC (List.replicate w 0))).trans' e3 (by intro b hb; simp at hb; subst hb; exact .inr (Nat.le_refl _))).above⟩
 rw [lett_eq]
 refine e1.trans ?_
 rw [hc, outK_val, avStr_str, obind_val]
theorem u32_w {v : Nat} (hn : 8 < n) (hv : v < 4294967296) (hx : memB 5 h.ex = false) : world n (d + 2) 90 [.int .u32 (v : Int)] h = some (.ret (strA (numB 4 v)), h) := by
 rw [w_wire_U32]
 unfold wire_U32
 have e : IntKind.u64.wrap (v : Int) = (v : Int) := by rw [wrap_u64_mod]; omega
 rw [lett_eq, e, show ((4 : Int)) = ((4 : Nat) : Int) from rfl, number_w hn (by omega) (by omega) hx, callN_ret, avStr_str, obind_val]
 exact gcR_self
theorem u64_w {v : Nat} (hn : 8 < n) (hv : v < 18446744073709551616) (hx : memB 5 h.ex = false) : world n (d + 2) 66 [.int .u64 (v : Int)] h = some (.ret (strA (numB 8 v)), h) := by
 rw [w_wire_U64]
 unfold wire_U64
 rw [show ((8 : Int)) = ((8 : Nat) : Int) from rfl, number_w hn (by omega) hv hx, callN_ret, avStr_str, obind_val]
 exact gcR_self
end
structure RS where
 p : Nat
 e : Int
 q : Int
def valF : Nat → Bytes → Nat
 | a, [] => a
 | a, b :: l => valF (a * 256 + b.toNat) l
def valB (l : Bytes) : Nat := valF 0 l
theorem valF_append : ∀ (l k : Bytes) (a : Nat), valF a (l ++ k) = valF (valF a l) k
 | [], _, _ => rfl
 | b :: l, k, a => by rw [List.cons_append, valF, valF_append l k, valF]
theorem valF_lt : ∀ (l : Bytes) (a : Nat), valF a l < (a + 1) * 256 ^ l.length
 | [], a => by simp [valF]
 | b :: l, a => by
  rw [valF, List.length_cons, Nat.pow_succ]
  have h := valF_lt l (a * 256 + b.toNat)
  have hb := b.toNat_lt
  have h2 : (a * 256 + b.toNat + 1) * 256 ^ l.length ≤ ((a + 1) * 256) * 256 ^ l.length := Nat.mul_le_mul_right _ (by omega)
  calc _ < _ := h
   _ ≤ _ := h2
   _ = _ := by rw [Nat.mul_assoc, Nat.mul_comm 256]
theorem valB_lt (l : Bytes) : valB l < 256 ^ l.length := by
 have := valF_lt l 0
 rw [Nat.zero_add, Nat.one_mul] at this
 exact this
theorem valB_succ {s : Bytes} {p i : Nat} (h : p + i < s.length) : valB ((s.drop p).take (i + 1)) = valB ((s.drop p).take i) * 256 + s[p + i].toNat := by
 unfold valB
 rw [List.take_succ_eq_append_getElem (by rw [List.length_drop]; omega), valF_append, List.getElem_drop]
 rfl
theorem valB_le8 {s : Bytes} {p i : Nat} : valB ((s.drop p).take i) < 256 ^ i := by
 refine Nat.lt_of_lt_of_le (valB_lt _) (Nat.pow_le_pow_right (by omega) ?_)
 rw [List.length_take]
 exact Nat.min_le_left _ _
theorem pow_le7 {i : Nat} (hi : i ≤ 7) : 256 ^ i ≤ 72057594037927936 := Nat.le_trans (Nat.pow_le_pow_right (by omega) hi) (by decide)
def rNum (s : Bytes) (w : Nat) (r : RS) : Nat × RS :=
 if r.e ≠ 0 then (0, r) else if s.length < r.p + w then (0, ⟨r.p, 7, (r.p : Int)⟩) else (valB ((s.drop r.p).take w), ⟨r.p + w, r.e, r.q⟩)
def RS.ok (s : Bytes) (r : RS) : Prop := r.p ≤ s.length
theorem rNum_ok {s : Bytes} {w : Nat} {r : RS} (h : r.ok s) : (rNum s w r).2.ok s := by
 unfold RS.ok at *
 unfold rNum
 split
 ·exact h
 ·split
  ·exact h
  ·show r.p + w ≤ s.length
   omega
theorem rNum_lt {s : Bytes} {w : Nat} {r : RS} : (rNum s w r).1 < 256 ^ w := by
 have hp : 0 < 256 ^ w := Nat.pow_pos (by omega)
 unfold rNum
 split
 ·exact hp
 ·split
  ·exact hp
  ·exact valB_le8
noncomputable def rdC (s : Bytes) (r : RS) : List AV := [strA s, .int .i64 (r.p : Int), .int .i64 r.e, .int .i64 r.q]
abbrev PR (h : AHeap) (b : Nat) (s : Bytes) (r : RS) : Prop := RowH h b 166 (rdC s r)
theorem neq72 (h : AHeap) (b : Nat) : opBin Try.prog h .neq 150 true (some (.ptr b 0)) (some .nilp) = some (.val (.bool true), h) := by kernel_rfl
theorem shl8 {v : Int} (h0 : 0 ≤ v) (h1 : v < 72057594037927936) : shlI .u64 v 8 = some (v * 256) := by
 have : shlI .u64 v 8 = some (IntKind.u64.wrap (v * 256)) := rfl
 rw [this, wrap_u64_mod, Int.emod_eq_of_lt (by omega) (by omega)]
theorem or8 {v c : Nat} (h1 : v < 72057594037927936) (h2 : c < 256) : orI .u64 ((v : Int) * 256) (c : Int) = ((v * 256 + c : Nat) : Int) := by
 show IntKind.u64.wrap (((BitVec.ofInt 64 ((v : Int) * 256)) ||| (BitVec.ofInt 64 (c : Int))).toNat : Int) = _
 have e1 : (BitVec.ofInt 64 ((v : Int) * 256)) = BitVec.ofNat 64 (v * 256) := by
  rw [show ((v : Int) * 256) = ((v * 256 : Nat) : Int) by omega]
  exact BitVec.ofInt_natCast ..
 have e2 : (BitVec.ofInt 64 (c : Int)) = BitVec.ofNat 64 c := BitVec.ofInt_natCast ..
 rw [e1, e2, BitVec.toNat_or, BitVec.toNat_ofNat, BitVec.toNat_ofNat, Nat.mod_eq_of_lt (by omega), Nat.mod_eq_of_lt (by omega)]
 have e3 : v * 256 ||| c = v * 256 + c := by
  have := Nat.shiftLeft_add_eq_or_of_lt (i := 8) (b := c) (by omega) v
  rw [Nat.shiftLeft_eq] at this
  exact this.symm
 rw [e3, wrap_u64_mod, Int.emod_eq_of_lt (by omega) (by omega)]
section
variable {n d b : Nat} {h : AHeap} {s : Bytes} {r : RS} {Q : ARes → AHeap → Prop}
theorem whole_w (k : PR h b s r) : world n (d + 1) 94 [.ptr b 0] h = some (.ret (.bool (decide (r.e = 0))), h) := by
 apply Wp.eq
 rw [w_wire_Reader_whole]
 unfold wire_Reader_whole
 repeat (first | (with_reducible refine Wp.join1 (fun _ _ => ?_)) | (with_reducible refine Wp.lett ?_) | ((with_reducible apply Wp.obind); first | (with_reducible first | exact avInt_int _ _ | exact avBool_bool _ | exact nilC_ptr _ _ | exact fldP_ptr _ _ _) | ((with_reducible apply RowH.cell'); (with_reducible assumption); rfl)) | ((with_reducible refine Wp.ift ?_ ?_); (with_reducible rfl)) | ((with_reducible apply Wp.outK); (with_reducible exact neq72 _ _)) | (with_reducible refine Wp.go1 (by assumption) ?_))
 exact Wp.ret ⟨by rw [← Bool.beq_eq_decide_eq], rfl⟩
theorem fail_w (k : PR h b s r) (e q : Int) : ∃ h', world n (d + 1) 95 [.ptr b 0, .int .i64 e, .int .i64 q] h = some (.ret (.tup []), h') ∧ PR h' b s ⟨r.p, e, q⟩ ∧ Tch [b] h h' := by
 apply Wp.ex
 rw [w_wire_Reader_fail]
 unfold wire_Reader_fail
 repeat (((with_reducible apply Wp.obind); (with_reducible first | exact nilC_ptr _ _ | exact fldP_ptr _ _ _)))
 refine Wp.stN k (vs := [.int .i64 e, .int .i64 q]) rfl (show 0 + 2 + 2 ≤ 4 by decide) rfl (fun h' k' t' _ => ?_)
 exact Wp.ret ⟨rfl, k', t'⟩
theorem num_loop {w : Nat} (hw : w ≤ 8) (hp : r.p + w ≤ s.length) (hs : s.length ≤ 1000000000) {k33 : Int → AHeap → R} (hk : k33 = fun t5 h_34 => some (.ret (.int .u64 t5), h_34)) {h0 : AHeap} :
  ∀ (f i : Nat) (h : AHeap), w < f + i → i ≤ w → PR h b s ⟨r.p + i, r.e, r.q⟩ → Tch [b] h0 h →
   Wp (wire_Reader_number_L0 (.ptr b 0) (w : Int) k33 f (valB ((s.drop r.p).take i) : Int) (i : Int) h) fun x h' => x = .ret (.int .u64 (valB ((s.drop r.p).take w) : Int)) ∧ PR h' b s ⟨r.p + w, r.e, r.q⟩ ∧ Tch [b] h0 h'
 | 0, i, h, h1, h2, _, _ => by omega
 | f + 1, i, h, h1, h2, k, t => by
  rw [wire_Reader_number_L0_s]
  unfold wire_Reader_number_L0b
  by_cases hi : i < w
  ·have hv : valB ((s.drop r.p).take i) < 72057594037927936 := Nat.lt_of_lt_of_le valB_le8 (pow_le7 (by omega))
   have hc := (s[r.p + i]'(by omega)).toNat_lt
   have hx : idxS s ((r.p + i : Nat) : Int) = some ((s[r.p + i]'(by omega)).toNat : Int) := idxS_nat (by omega)
   have hsuc := valB_succ (s := s) (p := r.p) (i := i) (by omega)
   have k0 : RowH h b 166 [strA s, .int .i64 ((r.p + i : Nat) : Int), .int .i64 r.e, .int .i64 r.q] := k
   clear k
   repeat (first | ((with_reducible first | refine Wp.lettw ?_ ?_ ?_ | refine Wp.lettu64 ?_ ?_ ?_); omega; omega) | (with_reducible refine Wp.lett ?_) | ((with_reducible apply Wp.obind); first | (with_reducible first | exact shl8 (by omega) (by omega) | exact hx | exact avInt_int _ _ | exact avStr_str _ | exact nilC_ptr _ _ | exact fldP_ptr _ _ _) | ((with_reducible apply RowH.cell'); (with_reducible assumption); rfl)) | ((with_reducible refine Wp.ift ?_ ?_); ((with_reducible apply decide_eq_true); omega)))
   refine Wp.st1 k0 (show 1 < 4 by decide) rfl (fun h' k' t' _ => ?_)
   repeat (((with_reducible refine Wp.lettw ?_ ?_ ?_); omega; omega))
   rw [or8 hv hc, ← hsuc, show (i : Int) + 1 = ((i + 1 : Nat) : Int) by omega]
   refine num_loop hw hp hs hk f (i + 1) h' (by omega) (by omega) ?_ (t.trans t')
   have e : ([strA s, .int .i64 ((r.p + i : Nat) : Int), .int .i64 r.e, .int .i64 r.q] : List AV).set 1 (.int .i64 (((r.p + i : Nat) : Int) + 1)) = rdC s ⟨r.p + (i + 1), r.e, r.q⟩ := by
    rw [show ((r.p + i : Nat) : Int) + 1 = ((r.p + (i + 1) : Nat) : Int) by omega]
    rfl
   have k2 : RowH h' b 166 _ := k'
   rw [show 0 + 1 = 1 from rfl, e] at k2
   exact k2
  ·have : i = w := by omega
   subst this
   repeat (first | (with_reducible refine Wp.lett ?_) | ((with_reducible refine Wp.iff ?_ ?_); ((with_reducible apply decide_eq_false); omega)) | (with_reducible refine Wp.go1 (by assumption) ?_))
   exact Wp.ret ⟨rfl, k, t⟩
theorem number_r {w : Nat} (k : PR h b s r) (hok : r.ok s) (hw : w ≤ 8) (hs : s.length ≤ 1000000000) (hn : 8 < n) {W : Int} (hW : W = (w : Int)) : ∃ h', world n (d + 2) 88 [.ptr b 0, .int .i64 W] h = some (.ret (.int .u64 ((rNum s w r).1 : Int)), h') ∧ PR h' b s (rNum s w r).2 ∧ Tch [b] h h' := by
 subst hW
 unfold RS.ok at hok
 apply Wp.ex
 rw [w_wire_Reader_number]
 unfold wire_Reader_number
 have hwh := whole_w (n := n) (d := d) k
 have ll := lenS_nat s
 unfold rNum
 by_cases he : r.e = 0
 case neg =>
  rw [decide_eq_false he] at hwh
  rw [if_pos he]
  repeat (first | (with_reducible refine Wp.lett ?_) | ((with_reducible apply Wp.obind); (with_reducible exact avBool_bool _)) | ((with_reducible refine Wp.ift ?_ ?_); (with_reducible exact Bool.not_false)) | ((with_reducible apply Wp.callN); (with_reducible assumption)))
  exact Wp.ret ⟨rfl, k, Tch.refl _ _⟩
 rw [decide_eq_true he] at hwh
 rw [if_neg (by simpa using he)]
 by_cases hl : s.length < r.p + w
 ·obtain ⟨h1, e1, k1, t1⟩ := fail_w (n := n) (d := d) k 7 (r.p : Int)
  rw [if_pos hl]
  repeat (first | ((with_reducible refine Wp.lettw ?_ ?_ ?_); omega; omega) | (with_reducible refine Wp.lett ?_) | ((with_reducible apply Wp.obind); first | (with_reducible first | exact avInt_int _ _ | exact avBool_bool _ | exact avStr_str _ | exact nilC_ptr _ _ | exact fldP_ptr _ _ _) | ((with_reducible apply RowH.cell'); (with_reducible assumption); rfl)) | ((with_reducible refine Wp.ift ?_ ?_); ((with_reducible apply decide_eq_true); omega)) | ((with_reducible refine Wp.iff ?_ ?_); (with_reducible exact Bool.not_true)) | ((with_reducible apply Wp.callN); (with_reducible assumption)))
  exact Wp.ret ⟨rfl, k1, t1⟩
 ·rw [if_neg hl]
  repeat (first | (with_reducible refine Wp.join1 (fun _ _ => ?_)) | ((with_reducible refine Wp.lettw ?_ ?_ ?_); omega; omega) | (with_reducible refine Wp.lett ?_) | ((with_reducible apply Wp.obind); first | (with_reducible first | exact avInt_int _ _ | exact avBool_bool _ | exact avStr_str _ | exact nilC_ptr _ _ | exact fldP_ptr _ _ _) | ((with_reducible apply RowH.cell'); (with_reducible assumption); rfl)) | ((with_reducible refine Wp.iff ?_ ?_); first | (with_reducible exact Bool.not_true) | ((with_reducible apply decide_eq_false); omega)) | ((with_reducible apply Wp.callN); (with_reducible assumption)))
  rename_i k33 hk33
  exact num_loop hw (by omega) hs hk33 n 0 h (by omega) (by omega) k (Tch.refl _ _)
theorem u64_r (k : PR h b s r) (hok : r.ok s) (hs : s.length ≤ 1000000000) (hn : 8 < n) : ∃ h', world n (d + 3) 79 [.ptr b 0] h = some (.ret (.int .u64 ((rNum s 8 r).1 : Int)), h') ∧ PR h' b s (rNum s 8 r).2 ∧ Tch [b] h h' := by
 obtain ⟨h1, e1, k1, t1⟩ := number_r (n := n) (d := d) k hok (w := 8) (W := 8) (by omega) hs hn rfl
 apply Wp.ex
 rw [w_wire_Reader_U64]
 unfold wire_Reader_U64
 repeat (first | ((with_reducible apply Wp.obind); (with_reducible exact avInt_int _ _)) | ((with_reducible apply Wp.callN); (with_reducible assumption)))
 exact Wp.ret ⟨rfl, k1, t1⟩
theorem u32_r (k : PR h b s r) (hok : r.ok s) (hs : s.length ≤ 1000000000) (hn : 8 < n) : ∃ h', world n (d + 3) 98 [.ptr b 0] h = some (.ret (.int .u32 ((rNum s 4 r).1 : Int)), h') ∧ PR h' b s (rNum s 4 r).2 ∧ Tch [b] h h' := by
 obtain ⟨h1, e1, k1, t1⟩ := number_r (n := n) (d := d) k hok (w := 4) (W := 4) (by omega) hs hn rfl
 have hlt : (rNum s 4 r).1 < 4294967296 := rNum_lt (s := s) (w := 4) (r := r)
 apply Wp.ex
 rw [w_wire_Reader_U32]
 unfold wire_Reader_U32
 repeat (first | ((with_reducible refine Wp.lettu32 ?_ ?_ ?_); omega; omega) | ((with_reducible apply Wp.obind); (with_reducible exact avInt_int _ _)) | ((with_reducible apply Wp.callN); (with_reducible assumption)))
 exact Wp.ret ⟨rfl, k1, t1⟩
end
end Go.Proofs.Ytpnccmlajhhpdaa
namespace Go.Proofs.Ytpnccmlajhhpdaa
namespace Crc
def poly : Nat := 2197175160
def ones : Nat := 4294967295
def U32 (x : Nat) : Prop := x < 2 ^ 32
def sh (x : Nat) : Nat := (x / 2) ^^^ (if x % 2 = 1 then poly else 0)
def shN : Nat → Nat → Nat
 | 0, x => x
 | n + 1, x => shN n (sh x)
def stp (x b : Nat) : Nat := sh (x ^^^ b)
def stps : List Nat → Nat → Nat
 | [], x => x
 | b :: l, x => stps l (stp x b)
def bits8 (x : Nat) : List Nat := [x % 2, x / 2 % 2, x / 4 % 2, x / 8 % 2, x / 16 % 2, x / 32 % 2, x / 64 % 2, x / 128 % 2]
def bitsOf : List UInt8 → List Nat
 | [] => []
 | x :: l => bits8 x.toNat ++ bitsOf l
def more (from_ : Nat) (l : List UInt8) : Nat := ones ^^^ stps (bitsOf l) (ones ^^^ from_)
def of (l : List UInt8) : Nat := more 0 l
theorem poly_lt : U32 poly := by unfold U32 poly; decide
theorem ones_lt : U32 ones := by unfold U32 ones; decide
theorem xor_lt {x y : Nat} (hx : U32 x) (hy : U32 y) : U32 (x ^^^ y) := Nat.xor_lt_two_pow hx hy
theorem sh_lt {x : Nat} (hx : U32 x) : U32 (sh x) := by
 unfold sh
 refine xor_lt ?_ ?_
 ·unfold U32 at *; omega
 ·split
  ·exact poly_lt
  ·unfold U32; decide
theorem shN_lt : ∀ {n x : Nat}, U32 x → U32 (shN n x)
 | 0, _, h => h
 | n + 1, _, h => shN_lt (n := n) (sh_lt h)
theorem bit_lt {b : Nat} (h : b < 2) : U32 b := by unfold U32; omega
theorem stps_lt : ∀ {l : List Nat} {x : Nat}, U32 x → (∀ b ∈ l, b < 2) → U32 (stps l x)
 | [], _, h, _ => h
 | b :: l, x, h, hb => stps_lt (l := l) (sh_lt (xor_lt h (bit_lt (hb b (by simp))))) (fun c hc => hb c (by simp [hc]))
theorem bits8_lt (x : Nat) : ∀ b ∈ bits8 x, b < 2 := by
 intro b hb
 simp only [bits8, List.mem_cons, List.not_mem_nil, or_false] at hb
 omega
theorem bitsOf_lt (l : List UInt8) : ∀ b ∈ bitsOf l, b < 2 := by
 induction l with
 | nil => intro b hb; simp [bitsOf] at hb
 | cons x l ih =>
  intro b hb
  rcases List.mem_append.1 hb with h | h
  ·exact bits8_lt _ b h
  ·exact ih b h
theorem more_lt {a : Nat} (l : List UInt8) (ha : U32 a) : U32 (more a l) := xor_lt ones_lt (stps_lt (xor_lt ones_lt ha) (bitsOf_lt l))
theorem of_lt (l : List UInt8) : U32 (of l) := more_lt l (by unfold U32; decide)
theorem mod_xor (x y : Nat) : (x ^^^ y) % 2 = (x % 2 + y % 2) % 2 := by
 have hx := Nat.mod_two_eq_zero_or_one x
 have hy := Nat.mod_two_eq_zero_or_one y
 have hz := Nat.mod_two_eq_zero_or_one (x ^^^ y)
 have h := Nat.testBit_xor x y 0
 simp only [Nat.testBit_zero] at h
 rcases hx with hx | hx <;> rcases hy with hy | hy <;> rcases hz with hz | hz <;> simp [hx, hy, hz] at h ⊢
theorem div_xor (x y : Nat) : (x ^^^ y) / 2 = (x / 2) ^^^ (y / 2) := Nat.xor_div_two
theorem sh_xor (x y : Nat) : sh (x ^^^ y) = sh x ^^^ sh y := by
 unfold sh
 rw [div_xor, mod_xor]
 have hx := Nat.mod_two_eq_zero_or_one x
 have hy := Nat.mod_two_eq_zero_or_one y
 have e : (if (x % 2 + y % 2) % 2 = 1 then poly else 0) = (if x % 2 = 1 then poly else 0) ^^^ (if y % 2 = 1 then poly else 0) := by
  rcases hx with hx | hx <;> rcases hy with hy | hy <;> simp [hx, hy]
 rw [e]
 ac_rfl
theorem shN_xor : ∀ (n x y : Nat), shN n (x ^^^ y) = shN n x ^^^ shN n y
 | 0, _, _ => rfl
 | n + 1, x, y => by
  show shN n (sh (x ^^^ y)) = shN n (sh x) ^^^ shN n (sh y)
  rw [sh_xor, shN_xor n]
theorem shN_add : ∀ (m n x : Nat), shN (m + n) x = shN n (shN m x)
 | 0, n, x => by rw [Nat.zero_add]; rfl
 | m + 1, n, x => by
  rw [Nat.add_right_comm]
  exact shN_add m n (sh x)
theorem stps_append : ∀ (l m : List Nat) (x : Nat), stps (l ++ m) x = stps m (stps l x)
 | [], _, _ => rfl
 | b :: l, m, x => stps_append l m (stp x b)
theorem bitsOf_append (l m : List UInt8) : bitsOf (l ++ m) = bitsOf l ++ bitsOf m := by
 induction l with
 | nil => rfl
 | cons x l ih => simp [bitsOf, ih]
def word : List Nat → Nat
 | [] => 0
 | b :: l => b + 2 * word l
theorem sh_double (x : Nat) : sh (2 * x) = x := by
 unfold sh
 rw [if_neg (by omega), Nat.xor_zero]
 omega
theorem add_eq_xor {b x : Nat} (hb : b < 2) : b + 2 * x = b ^^^ (2 * x) := by
 have h1 := div_xor b (2 * x)
 have h2 := mod_xor b (2 * x)
 have e1 : 2 * x / 2 = x := by omega
 have e2 : b / 2 = 0 := by omega
 rw [e1, e2, Nat.zero_xor] at h1
 omega
theorem stps_word : ∀ (l : List Nat) (x : Nat), (∀ b ∈ l, b < 2) → stps l x = shN l.length (x ^^^ word l)
 | [], x, _ => by simp [stps, shN, word]
 | b :: l, x, h => by
  show stps l (sh (x ^^^ b)) = shN l.length (sh (x ^^^ (b + 2 * word l)))
  rw [stps_word l _ (fun c hc => h c (by simp [hc])), add_eq_xor (h b (by simp)), ← Nat.xor_assoc, sh_xor (x ^^^ b), sh_double]
def halves : List Nat := [0, 274646895, 549293790, 820201905, 1098587580, 1361435347, 1640403810, 1905808397, 2197175160, 2460548119, 2722870694, 2987750089, 3280807620, 3553878443, 3811616794, 4084100981]
theorem halves_eq : halves = (List.range 16).map (shN 4) := by decide +kernel
theorem halves_get (j : Nat) (h : j < 16) : halves[j]? = some (shN 4 j) := by
 rw [halves_eq, List.getElem?_map, List.getElem?_range h]; rfl
theorem low_xor (q r : Nat) (hr : r < 16) : 16 * q + r = (16 * q) ^^^ r := by
 have h := Nat.two_pow_add_eq_or_of_lt (i := 4) (b := r) (by simpa using hr) q
 have e : (2 : Nat) ^ 4 = 16 := by decide
 rw [e] at h
 rw [h]
 apply Nat.eq_of_testBit_eq
 intro i
 rw [Nat.testBit_or, Nat.testBit_xor]
 by_cases hi : i < 4
 ·have : (16 * q).testBit i = false := by
   rw [show 16 * q = 2 ^ 4 * q from by rw [e], Nat.testBit_two_pow_mul]
   simp; omega
  rw [this]; simp
 ·have : r.testBit i = false := Nat.testBit_lt_two_pow (Nat.lt_of_lt_of_le hr (by rw [← e]; exact Nat.pow_le_pow_right (by omega) (by omega)))
  rw [this]; simp
theorem shN4_high (q : Nat) : shN 4 (16 * q) = q := by
 show sh (sh (sh (sh (16 * q)))) = q
 rw [show 16 * q = 2 * (2 * (2 * (2 * q))) from by omega, sh_double, sh_double, sh_double, sh_double]
theorem nib (x : Nat) : shN 4 x = (x / 16) ^^^ shN 4 (x % 16) := by
 conv => lhs; rw [show x = 16 * (x / 16) + x % 16 from by omega, low_xor _ _ (Nat.mod_lt _ (by omega)), shN_xor, shN4_high]
theorem word_bits8 (b : Nat) (h : b < 256) : word (bits8 b) = b := by
 simp only [word, bits8]
 omega
theorem stps_byte (b x : Nat) (h : b < 256) : stps (bits8 b) x = shN 4 (shN 4 (x ^^^ b)) := by
 rw [stps_word _ _ (bits8_lt b), word_bits8 b h, ← shN_add]
 rfl
end Crc
end Go.Proofs.Ytpnccmlajhhpdaa
namespace Go.Proofs.Ytpnccmlajhhpdaa
open Go.RowKit Abs
theorem xorI32 {x y : Nat} (hx : x < 4294967296) (hy : y < 4294967296) : xorI .u32 (x : Int) (y : Int) = ((x ^^^ y : Nat) : Int) := by
 have hz : x ^^^ y < 2 ^ 32 := Nat.xor_lt_two_pow (by omega) (by omega)
 have h1 : (BitVec.ofInt 32 (x : Int)).toNat = x := by
  rw [BitVec.ofInt_natCast, BitVec.toNat_ofNat]; exact Nat.mod_eq_of_lt (by omega)
 have h2 : (BitVec.ofInt 32 (y : Int)).toNat = y := by
  rw [BitVec.ofInt_natCast, BitVec.toNat_ofNat]; exact Nat.mod_eq_of_lt (by omega)
 show IntKind.u32.wrap ((BitVec.ofInt 32 (x : Int) ^^^ BitVec.ofInt 32 (y : Int)).toNat : Int) = _
 rw [BitVec.toNat_xor, h1, h2, wrap_u32_mod]
 omega
theorem comI32 {x : Nat} (hx : x < 4294967296) : comI .u32 (x : Int) = ((Crc.ones ^^^ x : Nat) : Int) := xorI32 (x := 4294967295) (by omega) hx
theorem crc_lt (l : Bytes) : Crc.of l < 4294967296 := Crc.of_lt l
abbrev TH16 : Nat := 177
noncomputable def halfV : List AV := Crc.halves.map fun (m : Nat) => .int .u32 (m : Int)
theorem halfV_get {j : Nat} (hj : j < 16) : halfV[j]? = some (.int .u32 ((Crc.shN 4 j : Nat) : Int)) := by
 unfold halfV
 rw [List.getElem?_map, Crc.halves_get j hj]
 rfl
theorem bitsOf_take {s : Bytes} {k : Nat} (h : k < s.length) (x0 : Nat) : Crc.stps (Crc.bitsOf (s.take (k + 1))) x0 = Crc.shN 4 (Crc.shN 4 (Crc.stps (Crc.bitsOf (s.take k)) x0 ^^^ s[k].toNat)) := by
 rw [List.take_succ_eq_append_getElem h, Crc.bitsOf_append, Crc.stps_append, show Crc.bitsOf [s[k]] = Crc.bits8 s[k].toNat by simp [Crc.bitsOf], Crc.stps_byte _ _ s[k].toNat_lt]
theorem nibI {Y : Nat} (hY : Y < 4294967296) : xorI .u32 ((Y / 16 : Nat) : Int) ((Crc.shN 4 (Y % 16) : Nat) : Int) = ((Crc.shN 4 Y : Nat) : Int) := by
 have h := xorI32 (x := Y / 16) (y := Crc.shN 4 (Y % 16)) (by omega) (Crc.shN_lt (show Crc.U32 (Y % 16) by unfold Crc.U32; omega))
 rw [← Crc.nib] at h
 exact h
section
variable {n d : Nat} {h H : AHeap} {s : Bytes} {Q : ARes → AHeap → Prop} {x0 : Nat}
theorem more_loop (hx0 : x0 < 4294967296) (hs : s.length < 1000000000) (kr : RowH H h.next TH16 halfV) {k13 : Int → AHeap → R} (hk : Wp (k13 ((Crc.stps (Crc.bitsOf s) x0 : Nat) : Int) H) Q) :
  ∀ (r i fu X : Nat), r + i = s.length → r < fu → X = Crc.stps (Crc.bitsOf (s.take i)) x0 → Wp (sum_More_L0 s h k13 fu (X : Int) (i : Int) H) Q
 | _, _, 0, _, _, hf, _ => by omega
 | 0, i, fu + 1, X, hi, _, hX => by
  have ll := lenS_nat s
  rw [sum_More_L0_s]
  unfold sum_More_L0b
  refine Wp.lett (Wp.iff (by rw [decide_eq_false_iff_not]; omega) ?_)
  rw [List.take_of_length_le (by omega)] at hX
  rw [hX]
  exact hk
 | r + 1, i, fu + 1, X, hi, hf, hX => by
  have ll := lenS_nat s
  have hil : i < s.length := by omega
  have hXl : X < 4294967296 := by
   rw [hX]
   exact Crc.stps_lt hx0 (Crc.bitsOf_lt _)
  have hb := s[i].toNat_lt
  have l1 : X ^^^ s[i].toNat < 4294967296 := Nat.xor_lt_two_pow (n := 32) hXl (by omega)
  have l2 : Crc.shN 4 (X ^^^ s[i].toNat) < 4294967296 := Crc.shN_lt l1
  have e1 : ∀ Y : Nat, shrI .u32 (Y : Int) 4 = some ((Y / 16 : Nat) : Int) := fun Y => by
   have : shrI .u32 (Y : Int) 4 = some ((Y : Int).fdiv 16) := rfl
   rw [this, Int.fdiv_eq_ediv_of_nonneg _ (by omega)]
   rfl
  have e2 : ∀ Y : Nat, remI .u32 (Y : Int) 16 = some ((Y % 16 : Nat) : Int) := fun Y => rfl
  have e3 : ∀ j : Nat, j < 16 → idxA 16 1 (newP h) (j : Int) = some (.ptr h.next j) := fun j hj => by
   have : idxA 16 1 (newP h) (j : Int) = (match Nat.blt j 16 with | true => some (AV.ptr h.next (0 + j * 1)) | false => none) := rfl
   rw [this, show Nat.blt j 16 = true by simpa using hj, Nat.zero_add, Nat.mul_one]
  rw [sum_More_L0_s]
  unfold sum_More_L0b
  refine Wp.lett (Wp.ift (by rw [decide_eq_true_eq]; omega) (Wp.obind (idxS_nat hil) (Wp.lettu32 (by omega) (by omega) (Wp.lett ?_))))
  rw [xorI32 hXl (by omega)]
  refine Wp.obind (e1 _) (Wp.obind (e2 _) (Wp.obind (e3 _ (Nat.mod_lt _ (by decide))) (Wp.obind (RowH.cell' kr (halfV_get (Nat.mod_lt _ (by decide)))) (Wp.obind (avInt_int _ _) (Wp.lett ?_)))))
  rw [nibI l1]
  refine Wp.obind (e1 _) (Wp.obind (e2 _) (Wp.obind (e3 _ (Nat.mod_lt _ (by decide))) (Wp.obind (RowH.cell' kr (halfV_get (Nat.mod_lt _ (by decide)))) (Wp.obind (avInt_int _ _) (Wp.lett ?_)))))
  rw [nibI l2]
  refine Wp.lettw (by omega) (by omega) ?_
  rw [show (i : Int) + 1 = ((i + 1 : Nat) : Int) by omega]
  exact more_loop hx0 hs kr hk r (i + 1) fu _ (by omega) (by omega) (by rw [bitsOf_take hil, hX])
theorem more_w {a : Nat} (ha : a < 4294967296) (hs : s.length < 1000000000) (hn : s.length < n) : world n (d + 1) 100 [.int .u32 (a : Int), strA s] h = some (.ret (.int .u32 ((Crc.more a s : Nat) : Int)), h) := by
 apply Wp.eq
 rw [w_sum_More]
 refine Wp.gc ?_
 unfold sum_More
 refine Wp.obind (a := halfV) (by kernel_rfl) (Wp.mnew (Mem.nil [] h) fun h2 M2 => ?_)
 rw [newP_eq]
 refine Wp.sa0 M2 (by kernel_rfl) rfl (by kernel_rfl) fun h3 M3 => Wp.lett (Wp.lettG fun k13 e13 => ?_)
 have ho : Crc.ones ^^^ a < 4294967296 := Crc.xor_lt Crc.ones_lt ha
 rw [comI32 ha]
 refine more_loop ho hs M3.at0.1 ?_ s.length 0 n _ (Nat.add_zero _) hn rfl
 rw [e13]
 dsimp only
 rw [comI32 (Crc.stps_lt ho (Crc.bitsOf_lt _))]
 exact Wp.lett (Wp.ret ⟨M3.tch.above, rfl, rfl, rfl⟩)
theorem sum_w (hs : s.length < 1000000000) (hn : s.length < n) : world n (d + 2) 96 [strA s] h = some (.ret (.int .u32 ((Crc.of s : Nat) : Int)), h) := by
 apply Wp.eq
 rw [w_sum_Of]
 refine Wp.gc' ?_
 unfold sum_Of
 exact Wp.callN (more_w (n := n) (d := d) (a := 0) (by omega) hs hn) (Wp.obind (avInt_int _ _) (Wp.ret ⟨⟨rfl, rfl⟩, fun _ => ⟨rfl, rfl⟩⟩))
end
theorem numB_val : ∀ (w v : Nat), v < 256 ^ w → valB (numB w v) = v
 | 0, v, h => by
  have : v = 0 := by simpa using h
  subst this
  rfl
 | w + 1, v, h => by
  have ih := numB_val w (v / 256) (by rw [Nat.pow_succ] at h; omega)
  unfold numB
  unfold valB at ih ⊢
  rw [valF_append, ih]
  show v / 256 * 256 + (UInt8.ofNat (v % 256)).toNat = v
  have := byte_of v
  omega
theorem numB_of : ∀ (w : Nat) (l : Bytes), l.length = w → numB w (valB l) = l
 | 0, l, h => by rw [List.length_eq_zero_iff.1 h]; rfl
 | w + 1, l, h => by
  have hne : l ≠ [] := fun e => by subst e; cases h
  obtain ⟨k, b, rfl⟩ : ∃ k b, l = k ++ [b] := ⟨l.dropLast, l.getLast hne, (List.dropLast_concat_getLast hne).symm⟩
  rw [List.length_append, List.length_singleton] at h
  have ih := numB_of w k (by omega)
  have hv : valB (k ++ [b]) = valB k * 256 + b.toNat := by
   unfold valB
   rw [valF_append]
   rfl
  have hb := b.toNat_lt
  unfold numB
  rw [hv, show (valB k * 256 + b.toNat) / 256 = valB k by omega, ih, show (valB k * 256 + b.toNat) % 256 = b.toNat by omega, UInt8.ofNat_toNat]
theorem numB_iff {w v : Nat} {l : Bytes} (hv : v < 256 ^ w) (hl : l.length = w) : numB w v = l ↔ valB l = v := by
 constructor
 ·intro e
  rw [← e]
  exact numB_val w v hv
 ·intro e
  rw [← e]
  exact numB_of w l hl
def wholeB (u : Bytes) : Bool := valB (u.drop (u.length - 4)) == Crc.of (u.take (u.length - 4))
def frameB (p : Bytes) : Bytes := numB 4 p.length ++ numB 4 (Crc.of (numB 4 p.length)) ++ (p ++ numB 4 (Crc.of p))
def takeR (s : Bytes) : Bytes × Nat × Int :=
 if s.length < 8 then ([], 0, 30) else if 4096 < valB (s.take 4) ∨ wholeB (s.take 8) = false then ([], 0, 7)
 else if s.length < valB (s.take 4) + 12 then ([], 0, 30) else if wholeB ((s.drop 8).take (valB (s.take 4) + 4)) = false then ([], 0, 7)
 else ((s.drop 8).take (valB (s.take 4)), valB (s.take 4) + 12, 0)
theorem frameB_length (p : Bytes) : (frameB p).length = p.length + 12 := by
 unfold frameB
 rw [List.length_append, List.length_append, List.length_append, numB_length, numB_length, numB_length]
 omega
theorem takeR_ok {s : Bytes} (h : (takeR s).2.2 = 0) : 8 ≤ s.length ∧ valB (s.take 4) ≤ 4096 ∧ wholeB (s.take 8) = true ∧ valB (s.take 4) + 12 ≤ s.length ∧ wholeB ((s.drop 8).take (valB (s.take 4) + 4)) = true ∧ takeR s = ((s.drop 8).take (valB (s.take 4)), valB (s.take 4) + 12, 0) := by
 unfold takeR at h ⊢
 by_cases h1 : s.length < 8
 ·rw [if_pos h1] at h
  cases h
 rw [if_neg h1] at h ⊢
 by_cases h2 : 4096 < valB (s.take 4) ∨ wholeB (s.take 8) = false
 ·rw [if_pos h2] at h
  cases h
 rw [if_neg h2] at h ⊢
 by_cases h3 : s.length < valB (s.take 4) + 12
 ·rw [if_pos h3] at h
  cases h
 rw [if_neg h3] at h ⊢
 by_cases h4 : wholeB ((s.drop 8).take (valB (s.take 4) + 4)) = false
 ·rw [if_pos h4] at h
  cases h
 rw [if_neg h4]
 have h5 : wholeB (s.take 8) ≠ false := fun e => h2 (.inr e)
 have h6 : ¬ 4096 < valB (s.take 4) := fun e => h2 (.inl e)
 exact ⟨by omega, by omega, by simpa using h5, by omega, by simpa using h4, rfl⟩
theorem takeR_len {s : Bytes} (h : (takeR s).2.2 = 0) : (takeR s).2.1 ≤ s.length ∧ 12 ≤ (takeR s).2.1 ∧ (takeR s).1.length + 12 = (takeR s).2.1 ∧ (takeR s).1.length ≤ 4096 := by
 obtain ⟨h1, h2, _, h4, _, e⟩ := takeR_ok h
 rw [e]
 refine ⟨h4, by show 12 ≤ valB (s.take 4) + 12; omega, ?_, ?_⟩
 ·show ((s.drop 8).take (valB (s.take 4))).length + 12 = valB (s.take 4) + 12
  rw [List.length_take, List.length_drop]
  omega
 ·show ((s.drop 8).take (valB (s.take 4))).length ≤ _
  rw [List.length_take]
  omega
def scanF : Nat → Bytes → List Bytes × Nat
 | 0, _ => ([], 0)
 | f + 1, s => if (takeR s).2.2 = 0 then ((takeR s).1 :: (scanF f (s.drop (takeR s).2.1)).1, (takeR s).2.1 + (scanF f (s.drop (takeR s).2.1)).2) else ([], 0)
def scanR (s : Bytes) : List Bytes × Nat := scanF (s.length + 1) s
theorem scanF_any : ∀ (f g : Nat) (s : Bytes), s.length < f → s.length < g → scanF f s = scanF g s
 | 0, _, _, h, _ => by omega
 | _, 0, _, _, h => by omega
 | f + 1, g + 1, s, hf, hg => by
  unfold scanF
  split
  ·rename_i h
   have hl := takeR_len h
   rw [scanF_any f g (s.drop (takeR s).2.1) (by rw [List.length_drop]; omega) (by rw [List.length_drop]; omega)]
  ·rfl
theorem scanR_bad {s : Bytes} (h : (takeR s).2.2 ≠ 0) : scanR s = ([], 0) := by
 unfold scanR scanF
 rw [if_neg h]
theorem scanR_ok {s : Bytes} (h : (takeR s).2.2 = 0) : scanR s = ((takeR s).1 :: (scanR (s.drop (takeR s).2.1)).1, (takeR s).2.1 + (scanR (s.drop (takeR s).2.1)).2) := by
 have hl := takeR_len h
 unfold scanR
 rw [scanF, if_pos h, scanF_any s.length ((s.drop (takeR s).2.1).length + 1) (s.drop (takeR s).2.1) (by rw [List.length_drop]; omega) (by omega)]
theorem scanR_at : ∀ (k : Nat) (s : Bytes), s.length ≤ k → (scanR s).2 ≤ s.length ∧ (scanR s).1.length * 12 ≤ s.length
 | k, s, hk => by
  by_cases h : (takeR s).2.2 = 0
  ·have hl := takeR_len h
   match k, hk with
   | 0, hk => omega
   | k + 1, hk =>
    have ih := scanR_at k (s.drop (takeR s).2.1) (by rw [List.length_drop]; omega)
    rw [List.length_drop] at ih
    rw [scanR_ok h]
    constructor
    ·show (takeR s).2.1 + _ ≤ _
     omega
    ·rw [List.length_cons]
     omega
  ·rw [scanR_bad h]
   exact ⟨Nat.zero_le _, by simp⟩
theorem wholeB_iff {u : Bytes} (hu : 4 ≤ u.length) : wholeB u = true ↔ numB 4 (Crc.of (u.take (u.length - 4))) = u.drop (u.length - 4) := by
 unfold wholeB
 rw [beq_iff_eq, numB_iff (by exact crc_lt _) (by rw [List.length_drop]; omega)]
theorem take_frame {s : Bytes} (h : (takeR s).2.2 = 0) : s.take (takeR s).2.1 = frameB (takeR s).1 := by
 obtain ⟨h1, h2, h3, h4, h5, e⟩ := takeR_ok h
 rw [e]
 show s.take (valB (s.take 4) + 12) = frameB ((s.drop 8).take (valB (s.take 4)))
 have hl4 : (s.take 4).length = 4 := by rw [List.length_take]; omega
 have hl8 : (s.take 8).length = 8 := by rw [List.length_take]; omega
 have hpl : ((s.drop 8).take (valB (s.take 4))).length = valB (s.take 4) := by rw [List.length_take, List.length_drop]; omega
 have hql : ((s.drop 8).take (valB (s.take 4) + 4)).length = valB (s.take 4) + 4 := by rw [List.length_take, List.length_drop]; omega
 have w1 := (wholeB_iff (by omega)).1 h3
 have w2 := (wholeB_iff (by omega)).1 h5
 rw [hl8, List.take_take] at w1
 rw [hql, List.take_take, Nat.add_sub_cancel, Nat.min_eq_left (Nat.le_add_right _ _)] at w2
 have e4 : numB 4 (valB (s.take 4)) = s.take 4 := numB_of 4 _ hl4
 unfold frameB
 rw [hpl, e4, w2]
 have w1 : numB 4 (Crc.of (s.take 4)) = (s.take 8).drop 4 := w1
 rw [w1]
 have a1 : s.take 4 ++ (s.take 8).drop 4 = s.take 8 := by
  have := List.take_append_drop 4 (s.take 8)
  rw [List.take_take] at this
  exact this
 have a2 : (s.drop 8).take (valB (s.take 4)) ++ ((s.drop 8).take (valB (s.take 4) + 4)).drop (valB (s.take 4)) = (s.drop 8).take (valB (s.take 4) + 4) := by
  have := List.take_append_drop (valB (s.take 4)) ((s.drop 8).take (valB (s.take 4) + 4))
  rw [List.take_take, Nat.min_eq_left (Nat.le_add_right _ _)] at this
  exact this
 rw [a1, a2, show valB (s.take 4) + 12 = 8 + (valB (s.take 4) + 4) by omega, List.take_add]
theorem frame_take {p rest : Bytes} (hp : p.length ≤ 4096) : takeR (frameB p ++ rest) = (p, p.length + 12, 0) := by
 have hl := frameB_length p
 have l4 : (numB 4 p.length).length = 4 := numB_length _ _
 have c4 : ∀ x : Bytes, (numB 4 (Crc.of x)).length = 4 := fun x => numB_length _ _
 have t4 : (frameB p ++ rest).take 4 = numB 4 p.length := by
  unfold frameB
  rw [List.append_assoc, List.append_assoc, List.take_append_of_le_length (by omega), List.take_of_length_le (by omega)]
 have t8 : (frameB p ++ rest).take 8 = numB 4 p.length ++ numB 4 (Crc.of (numB 4 p.length)) := by
  unfold frameB
  rw [List.append_assoc, List.take_left' (by rw [List.length_append, l4, c4])]
 have d8 : (frameB p ++ rest).drop 8 = p ++ numB 4 (Crc.of p) ++ rest := by
  unfold frameB
  rw [List.append_assoc, List.drop_left' (by rw [List.length_append, l4, c4])]
 have hv : valB ((frameB p ++ rest).take 4) = p.length := by
  rw [t4]
  exact numB_val 4 _ (by have : 256 ^ 4 = 4294967296 := rfl; omega)
 have w1 : wholeB ((frameB p ++ rest).take 8) = true := by
  rw [t8, wholeB_iff (by rw [List.length_append, l4, c4]; omega), List.length_append, l4, c4]
  rw [List.take_left' l4, List.drop_left' l4]
 have w2 : wholeB (((frameB p ++ rest).drop 8).take (p.length + 4)) = true := by
  rw [d8, List.take_left' (by rw [List.length_append, c4]), wholeB_iff (by rw [List.length_append, c4]; omega), List.length_append, c4, Nat.add_sub_cancel]
  rw [List.take_left' rfl, List.drop_left' rfl]
 unfold takeR
 rw [hv, w1, w2, if_neg (by rw [List.length_append]; omega), if_neg (by simp; omega), if_neg (by rw [List.length_append]; omega), if_neg (by decide), d8, List.append_assoc, List.take_left' rfl]
section
variable {n d : Nat} {h : AHeap} {s p : Bytes} {Q : ARes → AHeap → Prop}
theorem new_r (s : Bytes) (h : AHeap) : ∃ h', world n (d + 1) 78 [strA s] h = some (.ret (.ptr h.next 0), h') ∧ PR h' h.next s ⟨0, 0, 0⟩ ∧ h.next < h'.next ∧ Tch [] h h' := by
 suffices hK : Wp (world n (d + 1) 78 [strA s] h) fun r h' => r = .ret (.ptr h.next 0) ∧ PR h' h.next s ⟨0, 0, 0⟩ ∧ h.next < h'.next ∧ Tch [] h h' by
  obtain ⟨_, h', e, rfl, k⟩ := hK
  exact ⟨h', e, k⟩
 rw [w_wire_New]
 refine Wp.gcn ?_
 unfold wire_New
 exact Wp.mbox (Mem.nil [] h) rfl fun h2 M2 => Wp.ret ⟨Bool.eq_false_iff.2 (fun e => by have := Nat.le_of_ble_eq_true (show Nat.ble (h.next + 1) h.next = true from e); omega), rfl, M2.at0.1, M2.at0.2.1, M2.tch⟩
theorem fwhole_w (hu : 4 ≤ s.length) (hs : s.length < 1000000000) (hn : s.length < n) (hn8 : 8 < n) : world n (d + 4) 99 [strA s] h = some (.ret (.bool (wholeB s)), h) := by
 have ll := lenS_nat s
 have s1 : sliceS s (lenS s - 4) (lenS s) = some (s.drop (s.length - 4)) := by
  rw [sliceS_int (by omega) (by omega) (by omega), List.take_of_length_le (by rw [List.length_drop]; omega)]
  congr 2
  omega
 have s2 : sliceS s 0 (lenS s - 4) = some (s.take (s.length - 4)) := by
  rw [sliceS_int (by omega) (by omega) (by omega)]
  show some ((s.drop 0).take _) = _
  rw [List.drop_zero]
  congr 2
  omega
 have hl4 : (s.drop (s.length - 4)).length = 4 := by rw [List.length_drop]; omega
 obtain ⟨h1, e1, k1, l1, t1⟩ := new_r (n := n) (d := d + 2) (s.drop (s.length - 4)) h
 obtain ⟨h2, e2, k2, t2⟩ := u32_r (n := n) (d := d) k1 (Nat.zero_le _) (by omega) hn8
 have ev : (rNum (s.drop (s.length - 4)) 4 ⟨0, 0, 0⟩).1 = valB (s.drop (s.length - 4)) := by
  unfold rNum
  rw [if_neg (by simp), if_neg (by show ¬ _ < 0 + 4; omega)]
  show valB (((s.drop (s.length - 4)).drop 0).take 4) = _
  rw [List.drop_zero, List.take_of_length_le (by omega)]
 rw [ev] at e2
 apply Wp.eq
 rw [w_frame_whole]
 refine Wp.gc ?_
 unfold frame_whole
 refine Wp.lettw (by omega) (by omega) (Wp.obind s1 (Wp.obind s2 (Wp.callN e1 (Wp.callN e2 (Wp.obind (avInt_int _ _) (Wp.callN (sum_w (n := n) (d := d + 1) (by rw [List.length_take]; omega) (by rw [List.length_take]; omega)) (Wp.obind (avInt_int _ _) (Wp.lett ?_))))))))
 refine Wp.ret ⟨(t1.trans' t2 fun b hb => .inr (by rw [List.mem_singleton.1 hb]; exact Nat.le_refl _)).above, rfl, ?_, rfl⟩
 unfold wholeB
 by_cases hc : valB (s.drop (s.length - 4)) = Crc.of (s.take (s.length - 4))
 ·rw [beq_t (by omega), beq_iff_eq.2 hc]
 ·rw [beq_f (by omega), beq_eq_false_iff_ne.2 hc]
theorem summed_w (hs : s.length < 1000000) (hn : s.length < n) (hn8 : 8 < n) (hx : memB 5 h.ex = false) : world n (d + 3) 89 [strA s] h = some (.ret (strA (s ++ numB 4 (Crc.of s))), h) := by
 apply Wp.eq
 rw [w_frame_summed]
 refine Wp.gc' ?_
 unfold frame_summed
 have hc := crc_lt s
 exact Wp.callN (sum_w (n := n) (d := d) (by omega) hn) (Wp.obind (avInt_int _ _) (Wp.callN (u32_w (n := n) (d := d) hn8 hc hx) (Wp.obind (avStr_str _) (Wp.obind (addS_val (by rw [numB_length]; omega)) (Wp.ret ⟨⟨rfl, rfl⟩, fun _ => ⟨rfl, rfl⟩⟩)))))
theorem put_w (hn : 4096 < n) (hx : memB 5 h.ex = false) : world n (d + 4) 82 [strA p] h = some (.ret (if 4096 < p.length then .tup [strA [], .int .i64 3] else .tup [strA (frameB p), .int .i64 0]), h) := by
 have ll := lenS_nat p
 apply Wp.eq
 rw [w_frame_Put]
 refine Wp.gc' ?_
 unfold frame_Put
 by_cases hp : 4096 < p.length
 ·rw [if_pos hp]
  exact Wp.lett (Wp.ift (by rw [decide_eq_true_eq]; omega) (Wp.ret ⟨⟨rfl, rfl⟩, fun _ => ⟨rfl, rfl⟩⟩))
 ·rw [if_neg hp]
  have n4 : (numB 4 p.length).length = 4 := numB_length _ _
  refine Wp.lett (Wp.iff (by rw [decide_eq_false_iff_not]; omega) (Wp.lettu32 (by omega) (by omega) ?_))
  rw [ll]
  refine Wp.callN (u32_w (n := n) (d := d + 1) (by omega) (by omega) hx) (Wp.obind (avStr_str _) (Wp.callN (summed_w (n := n) (d := d) (by omega) (by omega) (by omega) hx) (Wp.obind (avStr_str _) (Wp.callN (summed_w (n := n) (d := d) (by omega) (by omega) (by omega) hx) (Wp.obind (avStr_str _) (Wp.obind (addS_val ?_) (Wp.ret ⟨⟨rfl, rfl⟩, fun _ => ⟨rfl, rfl⟩⟩)))))))
  rw [List.length_append, List.length_append, numB_length, numB_length, numB_length]
  omega
theorem take_w (hs : s.length < 1000000000) (hn : 5000 < n) : world n (d + 5) 93 [strA s] h = some (.ret (.tup [strA (takeR s).1, .int .i64 ((takeR s).2.1 : Int), .int .i64 (takeR s).2.2]), h) := by
 have ll := lenS_nat s
 obtain ⟨h1, e1, k1, l1, t1⟩ := new_r (n := n) (d := d + 3) s h
 obtain ⟨h2, e2, k2, t2⟩ := u32_r (n := n) (d := d + 1) k1 (Nat.zero_le _) (by omega) (by omega)
 have T : Tch [] h h2 := t1.trans' t2 fun b hb => .inr (by rw [List.mem_singleton.1 hb]; exact Nat.le_refl _)
 have tA := T.above
 apply Wp.eq
 rw [w_frame_Take]
 refine Wp.gc ?_
 unfold frame_Take takeR
 by_cases h8 : s.length < 8
 ·rw [if_pos h8]
  exact Wp.lett (Wp.ift (by rw [decide_eq_true_eq]; omega) (Wp.ret ⟨(Tch.refl [] h).above, rfl, rfl, rfl⟩))
 rw [if_neg h8]
 have ev : (rNum s 4 ⟨0, 0, 0⟩).1 = valB (s.take 4) := by
  unfold rNum
  rw [if_neg (by simp), if_neg (by show ¬ _ < 0 + 4; omega)]
  rfl
 have hv : valB (s.take 4) < 4294967296 := by
  have := valB_lt (s.take 4)
  rw [List.length_take, Nat.min_eq_left (by omega)] at this
  exact this
 rw [ev] at e2
 generalize hV : valB (s.take 4) = V at *
 refine Wp.lett (Wp.iff (by rw [decide_eq_false_iff_not]; omega) (Wp.callN e1 (Wp.callN e2 (Wp.obind (avInt_int _ _) (Wp.lett (Wp.lettG fun j20 e20 => ?_))))))
 have bad : (4096 < V ∨ wholeB (s.take 8) = false) → Wp (j20 true h2) fun r h' => Above h h' ∧ r.val.scal = true ∧ r = ARes.ret (AV.tup [strA (if 4096 < V ∨ wholeB (s.take 8) = false then ([], 0, 7) else if s.length < V + 12 then ([], 0, 30) else if wholeB ((s.drop 8).take (V + 4)) = false then ([], 0, 7) else ((s.drop 8).take V, V + 12, 0) : Bytes × Nat × Int).1, .int .i64 ((if 4096 < V ∨ wholeB (s.take 8) = false then ([], 0, 7) else if s.length < V + 12 then ([], 0, 30) else if wholeB ((s.drop 8).take (V + 4)) = false then ([], 0, 7) else ((s.drop 8).take V, V + 12, 0) : Bytes × Nat × Int).2.1 : Int), .int .i64 (if 4096 < V ∨ wholeB (s.take 8) = false then ([], 0, 7) else if s.length < V + 12 then ([], 0, 30) else if wholeB ((s.drop 8).take (V + 4)) = false then ([], 0, 7) else ((s.drop 8).take V, V + 12, 0) : Bytes × Nat × Int).2.2]) ∧ h = h := fun hc => by
  rw [if_pos hc, e20]
  exact Wp.ift rfl (Wp.ret ⟨tA, rfl, rfl, rfl⟩)
 by_cases h4 : 4096 < V
 ·exact Wp.ift (by rw [decide_eq_true_eq]; omega) (bad (.inl h4))
 have s8 : sliceS s 0 8 = some (s.take 8) := by
  rw [sliceS_int (by omega) (by omega) (by omega)]
  rfl
 refine Wp.iff (by rw [decide_eq_false_iff_not]; omega) (Wp.obind s8 (Wp.callN (fwhole_w (n := n) (d := d) (by rw [List.length_take]; omega) (by rw [List.length_take]; omega) (by rw [List.length_take]; omega) (by omega)) (Wp.obind (avBool_bool _) (Wp.lett ?_))))
 cases hw : wholeB (s.take 8) with
 | false =>
  rw [hw] at bad
  exact bad (.inr rfl)
 | true =>
  rw [if_neg (by simp; omega), e20]
  refine Wp.iff rfl (Wp.lettw (by omega) (by omega) (Wp.lettw (by omega) (by omega) (Wp.lettw (by omega) (by omega) (Wp.lett ?_))))
  by_cases h12 : s.length < V + 12
  ·rw [if_pos h12]
   exact Wp.ift (by rw [decide_eq_true_eq]; omega) (Wp.ret ⟨tA, rfl, rfl, rfl⟩)
  rw [if_neg h12]
  have sA : sliceS s 8 (8 + (V : Int) + 4) = some ((s.drop 8).take (V + 4)) := by
   rw [sliceS_int (by omega) (by omega) (by omega), show (8 + (V : Int) + 4).toNat - (8 : Int).toNat = V + 4 by omega]
   rfl
  have sB : sliceS s 8 (8 + (V : Int) + 4 - 4) = some ((s.drop 8).take V) := by
   rw [sliceS_int (by omega) (by omega) (by omega), show (8 + (V : Int) + 4 - 4).toNat - (8 : Int).toNat = V by omega]
   rfl
  have hql : ((s.drop 8).take (V + 4)).length = V + 4 := by rw [List.length_take, List.length_drop]; omega
  refine Wp.iff (by rw [decide_eq_false_iff_not]; omega) (Wp.obind sA (Wp.callN (fwhole_w (n := n) (d := d) (by omega) (by omega) (by omega) (by omega)) (Wp.obind (avBool_bool _) (Wp.lett ?_))))
  cases hw2 : wholeB ((s.drop 8).take (V + 4)) with
  | false =>
   rw [if_pos rfl]
   exact Wp.ift rfl (Wp.ret ⟨tA, rfl, rfl, rfl⟩)
  | true =>
   rw [if_neg (by decide)]
   refine Wp.iff rfl (Wp.lettw (by omega) (by omega) (Wp.obind sB (Wp.ret ⟨tA, rfl, ?_, rfl⟩)))
   rw [show 8 + (V : Int) + 4 = ((V + 12 : Nat) : Int) by omega]
end
abbrev TStr : Nat := 9
abbrev TStrs : Nat := 81
abbrev TIn : Nat := 3
noncomputable abbrev strR (l : List Bytes) : List (List AV) := l.map fun b => [strA b]
theorem fitStr : fitB Try.prog TStr 16 = true := by kernel_rfl
theorem bldStr (h : AHeap) (b : Bytes) : bldSl Try.prog h TStrs 1 [(0, strA b)] = outNewS h TStr [strA b] 1 1 := by
 obtain ⟨v, hv⟩ : ∃ v, enc b = v := ⟨_, rfl⟩
 show bldSl Try.prog h TStrs 1 [(0, .str b.length (enc b))] = outNewS h TStr [.str b.length (enc b)] 1 1
 generalize b.length = m
 generalize enc b = w
 kernel_rfl
theorem Sli.str {lo : Nat} {H : AHeap} {v : AV} {l : List Bytes} {p : Bytes} (k : Sli TStr 1 lo H v (strR l)) (hlo : lo ≤ H.next) (hx : memB TStr H.ex = false) (hl : l.length < 60000000) {K : AV → AHeap → R} {Q : ARes → AHeap → Prop} (hk : ∀ v' H', Sli TStr 1 lo H' v' (strR (l ++ [p])) → Ab lo H H' → H.next ≤ H'.next → Wp (K v' H') Q) :
  Wp (Abs.outK (bldSl Try.prog H TStrs 1 [(0, strA p)]) fun v12 h_30 => Abs.outK (opAppend Try.prog h_30 TStrs TStrs v v12) K) Q := by
 refine Wp.mnews (Mem.nil [] H) (bldStr H p) rfl hx fun h2 M2 => ?_
 have t2 := M2.tch
 have k2 := k.tch t2 (fun _ h => nomatch h)
 have n2 := t2.1
 have kr := M2.at0.1
 have hf : firstA h2 1 1 (.sl H.next 0 1 1) = some [strA p] := by
  rw [firstA_of_row (Nat.le_refl _)]
  exact kr.part (o := 0) (n := 1) (Nat.le_refl _)
 obtain ⟨v', h', e, k', a'⟩ := k2.push (P := Try.prog) (t := TStrs) (u := TStrs) (B := 16) (by kernel_rfl) (by kernel_rfl) (by kernel_rfl) fitStr (by rw [t2.2.1]; exact hx) (by omega) rfl hf rfl rfl (by rw [List.length_map]; omega) (by rw [List.length_map]; omega)
 have e3 : strR l ++ [[strA p]] = strR (l ++ [p]) := by
  unfold strR
  rw [List.map_append]
  rfl
 rw [e3] at k'
 refine Wp.outK e (hk v' h' k' ((t2.above.ab hlo).trans a') ?_)
 exact Nat.le_trans n2 a'.next
section
variable {n d D bx y : Nat} {h H : AHeap} {s p : Bytes} {Q : ARes → AHeap → Prop} {v v1 : AV}
theorem fall_loop {both : BothF} {yb : AV} {Inv Fin : Nat → AHeap → Prop} (hs : s.length < 1000000000)
  (htk : ∀ (u : Bytes) (h : AHeap), u.length < 1000000000 → both false 93 [strA u] h = some (.ret (.tup [strA (takeR u).1, .int .i64 ((takeR u).2.1 : Int), .int .i64 (takeR u).2.2]), h))
  (hbx : ∀ i H, Inv i H → RowH H bx TStr [strA s])
  (step : ∀ i H, i ≤ s.length → (takeR (s.drop i)).2.2 = 0 → Inv i H → ∃ g H', dynB Try.prog both yb [.int .i64 (i : Int), strA (takeR (s.drop i)).1] H = some (.ret (.bool g), H') ∧ (g = true → Inv (i + (takeR (s.drop i)).2.1) H') ∧ (g = false → Fin i H'))
  (hk : ∀ i H, i ≤ s.length → (takeR (s.drop i)).2.2 ≠ 0 → Inv i H → Q (.ret (.tup [])) H) (hf : ∀ i H, i ≤ s.length → (takeR (s.drop i)).2.2 = 0 → Fin i H → Q (.ret (.tup [])) H) :
  ∀ (fu i : Nat) (H : AHeap), s.length - i < fu → i ≤ s.length → Inv i H → Wp (frame_All_1_L0 both yb (.ptr bx 0) fu (i : Int) H) Q
 | 0, _, _, hfu, _, _ => by omega
 | fu + 1, i, H, hfu, hi, I => by
  have ll := lenS_nat s
  have sA : sliceS s (i : Int) (lenS s) = some (s.drop i) := by
   rw [sliceS_int (by omega) (by omega) (by omega), List.take_of_length_le (by rw [List.length_drop]; omega)]
   rfl
  rw [frame_All_1_L0_s]
  unfold frame_All_1_L0b
  refine Wp.obind (RowH.cell' (hbx i H I) rfl) (Wp.obind (avStr_str _) (Wp.obind sA (Wp.callN (htk _ H (by rw [List.length_drop]; omega)) (Wp.obind (extT_0 _ _) (Wp.obind (avStr_str _) (Wp.obind (extT_1 _ _ _) (Wp.obind (avInt_int _ _) (Wp.obind (extT_2 _ _ _ _) (Wp.obind (avInt_int _ _) (Wp.lett (Wp.lettG fun j23 e23 => ?_)))))))))))
  by_cases he : (takeR (s.drop i)).2.2 = 0
  ·have hl := takeR_len he
   rw [List.length_drop] at hl
   obtain ⟨g, H', e, y1, y2⟩ := step i H hi he I
   refine Wp.iff (bne_f he) (Wp.callN e (Wp.obind (avBool_bool _) (Wp.lett ?_)))
   rw [e23]
   cases g with
   | false => exact Wp.ift rfl (Wp.marks0 (Wp.ret (hf i H' hi he (y2 rfl))))
   | true =>
    refine Wp.iff rfl (Wp.lettw (by omega) (by omega) ?_)
    rw [show (i : Int) + ((takeR (s.drop i)).2.1 : Int) = ((i + (takeR (s.drop i)).2.1 : Nat) : Int) by omega]
    exact fall_loop hs htk hbx step hk hf fu (i + (takeR (s.drop i)).2.1) H' (by omega) (by omega) (y1 rfl)
  ·refine Wp.ift (bne_t he) ?_
   rw [e23]
   exact Wp.ift rfl (Wp.marks0 (Wp.ret (hk i H hi he I)))
theorem fall_iter {Inv Fin : Nat → AHeap → Prop} (hs : s.length < 1000000000) (hn : 1000000000 < n) (hbx : ∀ i H, Inv i H → RowH H bx TStr [strA s])
  (step : ∀ i H, i ≤ s.length → (takeR (s.drop i)).2.2 = 0 → Inv i H → ∃ g H', dynB Try.prog (wL n (D + 5) (d + 1)) (.yld y) [.int .i64 (i : Int), strA (takeR (s.drop i)).1] H = some (.ret (.bool g), H') ∧ (g = true → Inv (i + (takeR (s.drop i)).2.1) H') ∧ (g = false → Fin i H'))
  (h0 : Inv 0 H) : ∃ H', wL n (D + 5) (d + 2) false 92 [.yld y, .ptr bx 0] H = some (.ret (.tup []), H') ∧ ((∃ i, i ≤ s.length ∧ (takeR (s.drop i)).2.2 ≠ 0 ∧ Inv i H') ∨ ∃ i, i ≤ s.length ∧ (takeR (s.drop i)).2.2 = 0 ∧ Fin i H') := by
 suffices hK : Wp (frame_All_1 (wL n (D + 5) (d + 1)) n (.yld y) (.ptr bx 0) H) fun r H' => r = .ret (.tup []) ∧ ((∃ i, i ≤ s.length ∧ (takeR (s.drop i)).2.2 ≠ 0 ∧ Inv i H') ∨ ∃ i, i ≤ s.length ∧ (takeR (s.drop i)).2.2 = 0 ∧ Fin i H') by
  obtain ⟨_, H', e, rfl, k⟩ := hK
  exact ⟨H', wL_frame_All_1 n (D + 5) (d + 1) _ _ e, k⟩
 unfold frame_All_1
 exact fall_loop (Inv := Inv) (Fin := Fin) hs (fun u h hu => (wL_b 93).trans (take_w (n := n) (d := D) hu (by omega))) hbx step (fun i H h1 h2 I => ⟨rfl, .inl ⟨i, h1, h2, I⟩⟩) (fun i H h1 h2 I => ⟨rfl, .inr ⟨i, h1, h2, I⟩⟩) n 0 H (by omega) (Nat.zero_le _) h0
theorem fall_w (s : Bytes) (H : AHeap) : ∃ H', world n (d + 1) 87 [strA s] H = some (.ret (.fn 92 [] [.ptr H.next 0]), H') ∧ RowH H' H.next TStr [strA s] ∧ H.next < H'.next ∧ Tch [] H H' := by
 suffices hA : Wp (world n (d + 1) 87 [strA s] H) fun r h' => r = .ret (.fn 92 [] [.ptr H.next 0]) ∧ RowH h' H.next TStr [strA s] ∧ H.next < h'.next ∧ Tch [] H h' by
  obtain ⟨_, h', e, rfl, t⟩ := hA
  exact ⟨h', e, t⟩
 rw [w_frame_All]
 unfold frame_All
 refine Wp.mnew (Mem.nil [] H) fun h2 M2 => Wp.ret ⟨rfl, M2.at0.1, M2.at0.2.1, M2.tch⟩
theorem recS_ne {e b c : Nat} {l : List AV} {o : AKeep} (k : RowH H c e l) (hb : H.get b = some (.obj o)) : c ≠ b := by
 intro e
 subst e
 obtain ⟨t, h1, _⟩ := k
 rw [h1] at hb
 cases hb
theorem RowH.neT {b b' e e' : Nat} {l l' : List AV} (k : RowH H b e l) (k' : RowH H b' e' l') (hne : e ≠ e') : b ≠ b' := by
 intro hb
 subst hb
 obtain ⟨t, h1, _⟩ := k
 obtain ⟨t', h2, _⟩ := k'
 rw [h1] at h2
 simp only [Option.some.injEq, AObj.row.injEq] at h2
 exact hne h2.2.2
theorem Sli.one1 {e sz lo : Nat} {rows : List (List AV)} (k : Sli e sz lo H v rows) : v.one = true ∧ AV.cells v = [v] := by
 rcases k.2 with ⟨_, rfl⟩ | ⟨c, _, rfl, _⟩ <;> exact ⟨rfl, rfl⟩
end
section
variable {n d D bx y : Nat} {h H : AHeap} {s p : Bytes} {Q : ARes → AHeap → Prop} {v v1 : AV}
theorem scan_round {pl gl lo i : Nat} {c0 : Int} {l : List Bytes} {t0 : T AV} {Dm : Nat} (hrec : H.get y = some (recQ .ready .none (frame_Scan_R0 n).N (frame_Scan_R0 n).c t0 Dm)) (hy : y < lo) (hlo : lo ≤ H.next)
  (kp : RowH H pl TStrs [v]) (hpl : pl < lo) (kg : RowH H gl TIn [.int .i64 c0]) (hgl : gl < lo) (k : Sli TStr 1 lo H v (strR l)) (hx : H.ex = [89]) (hl : l.length < 60000000) (hi : i + p.length < 2000000000)
  (hg : ((putPs (frame_Scan_R0 n).N (Code.rgp (frame_Scan_R0 n).c).toList [.int .i64 (i : Int), strA p] t0).bind fun t => slotsC t (frame_Scan_R0 n).sa) = some [.ptr pl 0, .ptr gl 0, .int .i64 (i : Int), strA p]) :
  ∃ H' v', wL n D (d + 1) true y [.int .i64 (i : Int), strA p] H = some (.ret (.bool true), H') ∧ RowH H' pl TStrs [v'] ∧ RowH H' gl TIn [.int .i64 ((i + (p.length + 12) : Nat) : Int)] ∧ Sli TStr 1 lo H' v' (strR (l ++ [p])) ∧ H'.get y = some (recQ .ready .none (frame_Scan_R0 n).N (frame_Scan_R0 n).c t0 Dm) ∧ H.next ≤ H'.next ∧ H'.ex = H.ex ∧ ∀ b, b < lo → b ≠ pl → b ≠ gl → b ≠ y → H'.get b = H.get b := by
 have npl := recS_ne kp hrec
 have ngl := recS_ne kg hrec
 have npg := RowH.neT kp kg (by decide)
 have ll := lenS_nat p
 have key := round_W (both := wL n D d) (sites := wLS n) (G := fun z H' => z = 0 ∧ ∃ v', RowH H' pl TStrs [v'] ∧ RowH H' gl TIn [.int .i64 ((i + (p.length + 12) : Nat) : Int)] ∧ Sli TStr 1 lo H' v' (strR (l ++ [p])) ∧ H'.get y = some (recQ (stZ (jumpZ z)) (jumpZ z) (frame_Scan_R0 n).N (frame_Scan_R0 n).c t0 Dm) ∧ H.next ≤ H'.next ∧ H'.ex = H.ex ∧ ∀ b, b < lo → b ≠ pl → b ≠ gl → b ≠ y → H'.get b = H.get b) hrec (fun st jj => wLS_frame_Scan_R0 n st jj t0 Dm) hg ?_
 ·obtain ⟨z, H', e, rfl, v', k1, k2, k3, k4, k5⟩ := key
  rw [wL_r]
  exact ⟨H', v', e, k1, k2, k3, k4, k5⟩
 ·show Wp (frame_Scan_R0A_fn (wL n D d) n [.ptr pl 0, .ptr gl 0, .int .i64 (i : Int), strA p] H) _
  rw [frame_Scan_R0A_fn_eq]
  unfold frame_Scan_R0A
  refine Wp.ret ⟨_, rfl, rfl, by kernel_rfl, ?_⟩
  have tp : ∀ (G : AHeap) (o : AObj), Tch [y] G (G.put y o) := fun G o => Tch.put (.inl (List.mem_singleton.2 rfl)) _
  have m1 : ∀ {a b : Nat}, a ≠ b → a ∉ [b] := fun h h2 => h (List.mem_singleton.1 h2)
  have t1 := tp H (recQ .busy .none (frame_Scan_R0 n).N (frame_Scan_R0 n).c t0 Dm)
  have g1 := get_put_same (H := H) y (recQ .busy .none (frame_Scan_R0 n).N (frame_Scan_R0 n).c t0 Dm)
  show Wp (frame_Scan_R0B_fn (wL n D d) n [.ptr pl 0, .ptr gl 0, .int .i64 (i : Int), strA p] _) _
  rw [frame_Scan_R0B_fn_eq]
  unfold frame_Scan_R0B
  have kp1 := kp.tch t1 (by omega) (m1 npl)
  have kg1 := kg.tch t1 (by omega) (m1 ngl)
  have k1 := k.tch t1 (fun b hb => by rw [List.mem_singleton.1 hb]; exact hy)
  refine Wp.obind (RowH.cell' kp1 rfl) (Sli.str k1 hlo (by show memB TStr H.ex = false; rw [hx]; rfl) hl fun v2 H2 k2 a2 n2 => ?_)
  have n2' : H.next ≤ H2.next := n2
  have kp2 := kp1.same (a2.get pl hpl)
  have kg2 := kg1.same (a2.get gl hgl)
  rw [(Sli.one1 k2).2]
  refine Wp.st1 kp2 Nat.zero_lt_one (Sli.one1 k2).1 fun H3 kp3 t3 n3 => Wp.lettw (by omega) (by omega) (Wp.lettw (by omega) (by omega) (Wp.lettw (by omega) (by omega) ?_))
  have kg3 := kg2.tch t3 (by omega) (m1 (fun h => npg h.symm))
  refine Wp.st1 kg3 Nat.zero_lt_one rfl fun H4 kg4 t4 n4 => Wp.ret ⟨0, rfl, ?_, rfl, v2, ?_, ?_, ?_, get_put_same _ _, ?_, ?_, ?_⟩
  ·rw [t4.2.2 y (by omega) (m1 (fun h => ngl h.symm)), t3.2.2 y (by omega) (m1 (fun h => npl h.symm)), a2.get y hy]
   exact g1
  ·exact (kp3.tch t4 (by omega) (m1 npg)).tch (tp _ _) (by omega) (m1 npl)
  ·have := kg4.tch (tp _ (recQ (stZ (jumpZ 0)) (jumpZ 0) (frame_Scan_R0 n).N (frame_Scan_R0 n).c t0 Dm)) (by omega) (m1 ngl)
   rw [show (i : Int) + 8 + lenS p + 4 = ((i + (p.length + 12) : Nat) : Int) by omega] at this
   exact this
  ·exact ((k2.tch t3 fun b hb => by rw [List.mem_singleton.1 hb]; exact hpl).tch t4 fun b hb => by rw [List.mem_singleton.1 hb]; exact hgl).tch (tp _ _) fun b hb => by rw [List.mem_singleton.1 hb]; exact hy
  ·show H.next ≤ H4.next
   omega
  ·show H4.ex = H.ex
   rw [t4.2.1, t3.2.1, a2.ex]
   rfl
  ·intro b hb h1 h2 h3
   rw [get_put_other _ (fun h => h3 h.symm), t4.2.2 b (by omega) (m1 h2), t3.2.2 b (by omega) (m1 h1), a2.get b hb, get_put_other _ (fun h => h3 h.symm)]
end
section
variable {n d D : Nat} {h H : AHeap} {s p : Bytes} {Q : ARes → AHeap → Prop} {v w : AV}
theorem scan_step {s : Bytes} {i : Nat} {acc : List Bytes} (he : (takeR (s.drop i)).2.2 = 0) (h1 : acc ++ (scanR (s.drop i)).1 = (scanR s).1) (h2 : i + (scanR (s.drop i)).2 = (scanR s).2) :
  (acc ++ [(takeR (s.drop i)).1]) ++ (scanR (s.drop (i + (takeR (s.drop i)).2.1))).1 = (scanR s).1 ∧ (i + (takeR (s.drop i)).2.1) + (scanR (s.drop (i + (takeR (s.drop i)).2.1))).2 = (scanR s).2 := by
 rw [scanR_ok he, List.drop_drop] at h1 h2
 refine ⟨?_, ?_⟩
 ·rw [List.append_assoc]
  exact h1
 ·have h2 : i + ((takeR (s.drop i)).2.1 + _) = _ := h2
  omega
theorem scan_end {s : Bytes} {i : Nat} {acc : List Bytes} (he : (takeR (s.drop i)).2.2 ≠ 0) (h1 : acc ++ (scanR (s.drop i)).1 = (scanR s).1) (h2 : i + (scanR (s.drop i)).2 = (scanR s).2) : acc = (scanR s).1 ∧ i = (scanR s).2 := by
 rw [scanR_bad he] at h1 h2
 rw [List.append_nil] at h1
 exact ⟨h1, by omega⟩
set_option maxHeartbeats 1000000 in
theorem scan_w (hs : s.length < 600000000) (hn : 1000000000 < n) (hx : H.ex = [89]) : ∃ H' v, wL n (D + 5) (d + 4) false 77 [strA s] H = some (.ret (.tup [v, .int .i64 ((scanR s).2 : Int)]), H') ∧ Sli TStr 1 H.next H' v (strR (scanR s).1) ∧ Tch [] H H' := by
 suffices hK : Wp (frame_Scan (wL n (D + 5) (d + 3)) n s H) fun r H' => ∃ v, r = .ret (.tup [v, .int .i64 ((scanR s).2 : Int)]) ∧ Sli TStr 1 H.next H' v (strR (scanR s).1) ∧ Tch [] H H' by
  obtain ⟨_, H', e, v, rfl, k⟩ := hK
  exact ⟨H', v, wL_frame_Scan n (D + 5) (d + 3) _ e, k⟩
 unfold frame_Scan
 refine Wp.mnew (Mem.nil [] H) fun h2 M2 => Wp.mnew M2 fun h4 M4 => ?_
 have l2 := M2.at0.2.1
 have kp4 := M4.at1.1
 have kg4 := M4.at0.1
 have lg := M4.at0.2.1
 have t4 := M4.tch
 have n4 := t4.1
 obtain ⟨h8, e8, kx8, lx8, t8⟩ := fall_w (n := n) (d := D + 4) s h4
 have n8 := t8.1
 have kp8 := kp4.tch t8 (by omega) (fun h => nomatch h)
 have kg8 := kg4.tch t8 (by omega) (fun h => nomatch h)
 refine Wp.callN ((wL_b 87).trans e8) ?_
 obtain ⟨t0, ht0⟩ : ∃ t0, t0 = Fr.tree [(2, newP H), (3, newP h2), (7, AV.fn 92 [] [.ptr h4.next 0])] := ⟨_, rfl⟩
 have hg : ∀ (i : Nat) (q : Bytes), ((putPs (frame_Scan_R0 n).N (Code.rgp (frame_Scan_R0 n).c).toList [.int .i64 (i : Int), strA q] t0).bind fun t => slotsC t (frame_Scan_R0 n).sa) = some [.ptr H.next 0, .ptr h2.next 0, .int .i64 (i : Int), strA q] := fun i q => by
  rw [ht0]
  kernel_rfl
 rw [← ht0]
 have t1 := rngH_tch [] (frame_Scan_R0 n).N (frame_Scan_R0 n).c t0 h8
 have n1 := rngH_next (frame_Scan_R0 n).N (frame_Scan_R0 n).c t0 h8
 have r1 := rngH_rec (frame_Scan_R0 n).N (frame_Scan_R0 n).c t0 h8
 have d1 := rngH_mark (frame_Scan_R0 n).N (frame_Scan_R0 n).c t0 h8
 have x1 : (rngH (frame_Scan_R0 n).N (frame_Scan_R0 n).c t0 h8).ex = [89] := by rw [t1.2.1, t8.2.1, t4.2.1, hx]
 obtain ⟨Hs, hHs⟩ : ∃ Hs, Hs = rngH (frame_Scan_R0 n).N (frame_Scan_R0 n).c t0 h8 := ⟨_, rfl⟩
 rw [← hHs] at t1 n1 r1 d1 x1
 have kp1 := kp8.tch t1 (by omega) (fun h => nomatch h)
 have kg1 := kg8.tch t1 (by omega) (fun h => nomatch h)
 have kx1 := kx8.tch t1 lx8 (fun h => nomatch h)
 obtain ⟨H', e, hq⟩ := fall_iter (n := n) (D := D) (d := d + 1) (H := Hs) (y := h8.next + 1) (bx := h4.next) (s := s)
  (Inv := fun i H2 => ∃ acc v2, RowH H2 H.next TStrs [v2] ∧ RowH H2 h2.next TIn [.int .i64 (i : Int)] ∧ Sli TStr 1 Hs.next H2 v2 (strR acc) ∧ H2.get (h8.next + 1) = some (recQ .ready .none (frame_Scan_R0 n).N (frame_Scan_R0 n).c t0 h8.next) ∧ Hs.next ≤ H2.next ∧ H2.ex = [89] ∧ (∀ b, b < Hs.next → b ≠ H.next → b ≠ h2.next → b ≠ h8.next + 1 → H2.get b = Hs.get b) ∧ acc ++ (scanR (s.drop i)).1 = (scanR s).1 ∧ i + (scanR (s.drop i)).2 = (scanR s).2)
  (Fin := fun _ _ => False) (by omega) hn
  (fun i H2 I => by
   obtain ⟨acc, v2, _, _, _, _, _, _, k6, _⟩ := I
   exact kx1.same (k6 _ (by omega) (by omega) (by omega) (by omega)))
  (fun i H2 hi he I => by
   obtain ⟨acc, v2, a1, a2, a3, a4, a5, a6, a7, a8, a9⟩ := I
   have hl := takeR_len he
   rw [List.length_drop] at hl
   have hacc : acc.length * 12 ≤ s.length := by
    have := (scanR_at s.length s (Nat.le_refl _)).2
    rw [← a8, List.length_append] at this
    omega
   obtain ⟨H3, v3, e3, b1, b2, b3, b4, b5, b6, b7⟩ := scan_round (n := n) (D := D + 5) (d := d + 1) (y := h8.next + 1) (p := (takeR (s.drop i)).1) a4 (by omega) a5 a1 (by omega) a2 (by omega) a3 a6 (by omega) (by omega) (hg i _)
   obtain ⟨c1, c2⟩ := scan_step he a8 a9
   refine ⟨true, H3, ?_, fun _ => ⟨acc ++ [(takeR (s.drop i)).1], v3, b1, ?_, b3, b4, by omega, by rw [b6, a6], fun b g1 g2 g3 g4 => (b7 b g1 g2 g3 g4).trans (a7 b g1 g2 g3 g4), c1, c2⟩, fun h => nomatch h⟩
   ·rw [dynB_yld a4 (by kernel_rfl)]
    exact e3
   ·rw [hl.2.2.1] at b2
    exact b2)
  ⟨[], .nsl, kp1, kg1, Sli.nil _ _ _ _, r1, Nat.le_refl _, x1, fun _ _ _ _ _ => rfl, rfl, Nat.zero_add _⟩
 rcases hq with ⟨i, hi, he, acc, v2, a1, a2, a3, a4, a5, a6, a7, a8, a9⟩ | ⟨_, _, _, hF⟩
 ·obtain ⟨rfl, hie⟩ := scan_end he a8 a9
  rw [hHs] at e
  refine Wp.rng (by kernel_rfl) e a4 (by decide) (fun _ => ?_) (fun h => nomatch h) (fun _ h => nomatch h)
  have m1 : ∀ {a b : Nat}, a ≠ b → a ∉ [b] := fun h h2 => h (List.mem_singleton.1 h2)
  have tp : ∀ (G : AHeap) (b : Nat) (o : AObj), Tch [b] G (G.put b o) := fun G b o => Tch.put (.inl (List.mem_singleton.2 rfl)) _
  have t9 := tp H' (h8.next + 1) (recQ .exhausted .none (frame_Scan_R0 n).N (frame_Scan_R0 n).c t0 h8.next)
  have kp9 := a1.tch t9 (by omega) (m1 (by omega))
  have kg9 := a2.tch t9 (by omega) (m1 (by omega))
  have k9 := a3.tch t9 (fun b hb => by rw [List.mem_singleton.1 hb]; omega)
  have hv1 := Sli.one1 a3
  refine Wp.obind (RowH.cell' kp9 rfl) (Wp.obind (RowH.cell' kg9 rfl) (Wp.obind (avInt_int _ _) ?_))
  rw [hv1.2]
  refine Wp.st1 kp9 Nat.zero_lt_one hv1.1 fun h10 kp10 t10 n10 => ?_
  have kg10 := kg9.tch t10 (by show h2.next < H'.next; omega) (m1 (by omega))
  have hre : reLoad Try.prog h10 TIn (newP h2) (.int .i64 (i : Int)) = true := reLoad_c (by kernel_rfl) (show ldCell h10 (.ptr h2.next 0) = some (.int .i64 (i : Int)) from RowH.cell' kg10 rfl)
  refine Wp.chk (by rw [hre]; rfl) ?_
  refine Wp.st1 kg10 Nat.zero_lt_one rfl fun h11 kg11 t11 n11 => ?_
  have n10' : h10.next = H'.next := n10
  have kp11 := kp10.tch t11 (by omega) (m1 (by omega))
  have hm : h11.get h8.next = some (.obj .dfr) := by
   rw [t11.2.2 _ (by omega) (m1 (by omega)), t10.2.2 _ (by show h8.next < H'.next; omega) (m1 (by omega)), get_put_other _ (by omega), a7 _ (by omega) (by omega) (by omega) (by omega)]
   exact d1
  refine Wp.marks1 hm (Wp.marks0 ?_)
  have t12 := tp h11 h8.next (.obj .shut)
  have kp12 := kp11.tch t12 (by omega) (m1 (by omega))
  have kg12 := kg11.tch t12 (by omega) (m1 (by omega))
  have lo1 : ∀ b, b < H.next → (h11.put h8.next (.obj .shut)).get b = H.get b := fun b hb => by
   rw [get_put_other _ (by omega), t11.2.2 _ (by omega) (m1 (by omega)), t10.2.2 _ (by show b < H'.next; omega) (m1 (by omega)), get_put_other _ (by omega), a7 _ (by omega) (by omega) (by omega) (by omega), t1.2.2 b (by omega) (fun h => nomatch h), t8.2.2 b (by omega) (fun h => nomatch h), t4.2.2 b hb (fun h => nomatch h)]
  refine Wp.obind (RowH.cell' kp12 rfl) (Wp.obind (RowH.cell' kg12 rfl) (Wp.ret ⟨v2, ?_, ?_, ?_, ?_, fun b hb _ => lo1 b hb⟩))
  ·rw [hie]
  ·have ka := ((k9.tch t10 fun b hb => by rw [List.mem_singleton.1 hb]; omega).tch t11 fun b hb => by rw [List.mem_singleton.1 hb]; omega).tch t12 fun b hb => by rw [List.mem_singleton.1 hb]; omega
   refine ⟨ka.1, ?_⟩
   rcases ka.2 with h0 | ⟨c, h1, h2, h3, h4, h5⟩
   ·exact .inl h0
   ·exact .inr ⟨c, h1, h2, by omega, h4, h5⟩
  ·show H.next ≤ h11.next
   omega
  ·show h11.ex = H.ex
   rw [t11.2.1, t10.2.1]
   show H'.ex = H.ex
   rw [a6, hx]
 ·exact hF.elim
end
abbrev TBld : Nat := 89
abbrev TU8 : Nat := 5
abbrev BldW (h : AHeap) (b c : Nat) (l : Bytes) : Prop := BldR TBld TU8 h b c l
theorem eql_nil_nil (h : AHeap) : opBin Try.prog h .eql 87 true (some .nilp) (some .nilp) = some (.val (.bool true), h) := by kernel_rfl
theorem eql_ptr_nil (h : AHeap) (b : Nat) : opBin Try.prog h .eql 87 true (some (.ptr b 0)) (some .nilp) = some (.val (.bool false), h) := by kernel_rfl
theorem noEscape_ptr (h : AHeap) (b : Nat) : externA Try.prog h 75 [.ptr b 0] = some (.val (.ptr b 0), h) := by kernel_rfl
theorem binV_same (P : Program) (h : AHeap) (op : BinOp) (t : TypeId) (lit : Bool) (b o o' : Nat) : opBinV P h op t lit (some (.ptr b o)) (some (.ptr b o')) = opBin P h op t lit (some (.ptr b o)) (some (.ptr b o')) := by
 have hb : Nat.beq b b = true := Nat.beq_refl b
 simp only [opBinV, apartPtr, hb, Bool.not_true, Bool.false_and, Bool.and_false]
theorem conv_there {h : AHeap} {b : Nat} {t : T AV} (hb : h.get b = some (.row 2 t TBld)) : opConv Try.prog h 87 147 (some (.ptr b 0)) = some (.val (.ptr b 0), h) :=
 conv_unsafe (k := 1) (by kernel_rfl) (by kernel_rfl) hb
theorem conv_back {h : AHeap} {b : Nat} {t : T AV} (hb : h.get b = some (.row 2 t TBld)) (hx : memB TBld h.ex = true) : opConv Try.prog h 147 87 (some (.ptr b 0)) = some (.val (.ptr b 0), h) :=
 conv_safe (u := TBld) (by kernel_rfl) (by kernel_rfl) hb hx (by kernel_rfl)
theorem neq_same (h : AHeap) (b : Nat) : opBin Try.prog h .neq 87 false (some (.ptr b 0)) (some (.ptr b 0)) = some (.val (.bool false), h) :=
 neq_self (u := TBld) (by kernel_rfl)
section
variable {n d b c : Nat} {h : AHeap} {l : Bytes} {Q : ARes → AHeap → Prop}
theorem copyCheck_r (k : BldW h b c l) (hx : memB TBld h.ex = true) : ∃ h', world n (d + 1) 57 [.ptr b 0] h = some (.ret (.tup []), h') ∧ BldW h' b c l ∧ Tch [b] h h' := by
 obtain ⟨a, buf, k1, k2, k3, k4⟩ := k
 apply Wp.ex
 rw [w_strings_Builder_copyCheck]
 unfold strings_Builder_copyCheck
 repeat (((with_reducible apply Wp.obind); first | (with_reducible first | exact nilC_ptr _ _ | exact fldP_ptr _ _ _) | ((with_reducible apply RowH.cell'); (with_reducible assumption); rfl)))
 rcases k3 with rfl | rfl
 ·refine Wp.outK (eql_nil_nil h) ?_
  repeat (first | (with_reducible refine Wp.join0 (fun _ _ => ?_)) | ((with_reducible apply Wp.obind); (with_reducible exact avBool_bool _)) | ((with_reducible refine Wp.ift ?_ ?_); (with_reducible rfl)))
  have k1' := k1
  obtain ⟨t, g1, _⟩ := k1'
  refine Wp.outK (conv_there g1) ?_
  refine Wp.outK (noEscape_ptr h b) ?_
  refine Wp.outK (conv_back g1 hx) ?_
  repeat (((with_reducible apply Wp.obind); (with_reducible first | exact nilC_ptr _ _ | exact fldP_ptr _ _ _)))
  refine Wp.st1 k1 (by simp) rfl (fun h' q1 q2 q3 => ?_)
  repeat ((with_reducible refine Wp.go0 (by assumption) ?_))
  exact Wp.ret ⟨rfl, ⟨_, buf, q1, by omega, .inr rfl, k4.tch q2 (fun hc => by simpa using hc)⟩, q2⟩
 ·refine Wp.outK (eql_ptr_nil h b) ?_
  repeat (first | (with_reducible refine Wp.join0 (fun _ _ => ?_)) | ((with_reducible apply Wp.obind); first | (with_reducible first | exact avBool_bool _ | exact nilC_ptr _ _ | exact fldP_ptr _ _ _) | ((with_reducible apply RowH.cell'); (with_reducible assumption); rfl)) | ((with_reducible refine Wp.iff ?_ ?_); (with_reducible rfl)))
  refine Wp.outK ((binV_same _ _ _ _ _ _ _ _).trans (neq_same h b)) ?_
  repeat (first | ((with_reducible apply Wp.obind); (with_reducible exact avBool_bool _)) | ((with_reducible refine Wp.iff ?_ ?_); (with_reducible rfl)) | (with_reducible refine Wp.go0 (by assumption) ?_))
  exact Wp.ret ⟨rfl, ⟨_, buf, k1, k2, .inr rfl, k4⟩, Tch.refl _ _⟩
theorem string_r (k : BldW h b c l) (hbig : l.length ≤ 1000000000) : ∃ h', world n (d + 1) 36 [.ptr b 0] h = some (.ret (strA l), h') ∧ Tch [b, c] h h' := by
 obtain ⟨a, buf, k1, k2, k3, k4⟩ := k
 apply Wp.ex
 rw [w_strings_Builder_String]
 unfold strings_Builder_String
 repeat (((with_reducible apply Wp.obind); first | (with_reducible first | exact nilC_ptr _ _ | exact fldP_ptr _ _ _) | ((with_reducible apply RowH.cell'); (with_reducible assumption); rfl)))
 refine Wp.obind k4.one.2.2 ?_
 rcases k4 with ⟨rfl, rfl, rfl⟩ | ⟨rfl, g0, g1, g2, g3⟩
 ·refine Wp.outK (show opSliceData h .nsl = some (.val .nilp, h) from rfl) ?_
  refine Wp.chk (by rw [reLoad_cell (P := Try.prog) (ty := 46) (by kernel_rfl) (k1.cell' rfl) same_nsl]; rfl) ?_
  refine Wp.outK (show opUnsafeStr Try.prog h 134 .nilp (.int .i64 0) = some (.val (strA []), h) from rfl) ?_
  repeat (((with_reducible apply Wp.obind); (with_reducible exact avStr_str _)))
  exact Wp.ret ⟨rfl, Tch.refl _ _⟩
 ·have d1 : opSliceData h (.sl c 0 l.length 1) = some (.val (.ptr c 0), h) := by
   cases l with
   | nil => exact absurd rfl g0
   | cons x l => rfl
  refine Wp.outK d1 ?_
  refine Wp.chk (by rw [reLoad_cell (P := Try.prog) (ty := 46) (by kernel_rfl) (k1.cell' rfl) (same_sl _ _ _ _)]; rfl) ?_
  have g4 := g3.part (o := 0) (n := (bytesC l).length) (by omega)
  rw [List.drop_zero, List.take_length, bytesC_length] at g4
  refine Wp.outK (unsafeStr_row (by kernel_rfl) g0 hbig g4 g3.type) ?_
  repeat (((with_reducible apply Wp.obind); (with_reducible exact avStr_str _)))
  exact Wp.ret ⟨rfl, Tch.put (.inl (by simp)) _⟩
end
section
variable {n d b c c1 : Nat} {h h1 h2 : AHeap} {l u : Bytes} {Q : ARes → AHeap → Prop}
theorem writeString_r (k : BldW h b c l) (hx : memB TBld h.ex = true) (hu : memB TU8 h.ex = false) (s : Bytes) (hbig : l.length + s.length ≤ 1000000000) :
  ∃ c' h', world n (d + 2) 34 [.ptr b 0, strA s] h = some (.ret (.tup [.int .i64 (lenS s), .nifc]), h') ∧ BldW h' b c' (l ++ s) ∧ (c' = c ∨ h.next ≤ c') ∧ Tch [b, c] h h' := by
 obtain ⟨h1, e1, q1, t1⟩ := copyCheck_r (n := n) (d := d) k hx
 suffices hK : Wp (world n (d + 2) 34 [.ptr b 0, strA s] h) fun r h' => ∃ c', r = .ret (.tup [.int .i64 (lenS s), .nifc]) ∧ BldW h' b c' (l ++ s) ∧ (c' = c ∨ h.next ≤ c') ∧ Tch [b, c] h h' by
  obtain ⟨_, h', e, c', rfl, q⟩ := hK
  exact ⟨c', h', e, q⟩
 rw [w_strings_Builder_WriteString]
 unfold strings_Builder_WriteString
 refine Wp.callN e1 ?_
 obtain ⟨a, buf, k1, k2, k3, k4⟩ := q1
 repeat (((with_reducible apply Wp.obind); first | (with_reducible first | exact nilC_ptr _ _ | exact fldP_ptr _ _ _) | ((with_reducible apply RowH.cell'); (with_reducible assumption); rfl)))
 obtain ⟨buf', c', h2, a1, a2, a3, a4, a5⟩ := k4.append (P := Try.prog) (t := 46) (u := 9) k2 s (by kernel_rfl) (by kernel_rfl) (by kernel_rfl) (by kernel_rfl) (by rw [t1.2.1]; exact hu) hbig
 refine Wp.outK a1 ?_
 have k2' : RowH h2 b TBld [a, buf] := k1.same a5
 obtain ⟨o1, o2, _⟩ := a2.one
 rw [o2]
 repeat (((with_reducible apply Wp.obind); (with_reducible first | exact nilC_ptr _ _ | exact fldP_ptr _ _ _)))
 refine Wp.st1 k2' (by simp) o1 (fun h3 r1 r2 r3 => ?_)
 have n1 := t1.1
 have n2 := a4.1
 refine Wp.ret ⟨c', rfl, ⟨a, buf', r1, by omega, k3, a2.tch r2 (fun hc => by simpa using hc)⟩, by omega, ?_⟩
 exact (t1.mono (by simp)).trans ((a4.mono (by simp)).trans (r2.mono (by simp)))
end
abbrev TBy : Nat := 46
abbrev TChg : Nat := 124
abbrev TChgs : Nat := 101
abbrev TDisk : Nat := 106
structure Cont where
 th : Bool
 u : Bytes
structure Chg where
 k : Nat
 s : Bytes
 n : Int
noncomputable def chgC (c : Chg) : List AV := [.int .i64 (c.k : Int), strA c.s, .int .i64 c.n]
def do1 (x : Cont) (c : Chg) : Cont := if c.k = 0 then ⟨true, x.u ++ c.s⟩ else if c.k = 1 then ⟨x.th, x.u.take c.n.toNat⟩ else ⟨false, []⟩
def doL (x : Cont) (l : List Chg) : Cont := l.foldl do1 x
def legal (x : Cont) (c : Chg) : Prop := c.k = 0 ∨ (c.k = 1 ∧ 0 ≤ c.n ∧ c.n ≤ (x.u.length : Int)) ∨ c.k = 2
def Legal : Cont → List Chg → Prop
 | _, [] => True
 | x, c :: l => legal x c ∧ Legal (do1 x c) l
def sumL : List Chg → Nat
 | [] => 0
 | c :: l => c.s.length + sumL l
theorem do1_len (x : Cont) (c : Chg) : (do1 x c).u.length ≤ x.u.length + c.s.length := by
 unfold do1
 split
 ·rw [List.length_append]
  exact Nat.le_refl _
 ·split
  ·rw [List.length_take]
   omega
  ·exact Nat.zero_le _
theorem doL_len : ∀ (l : List Chg) (x : Cont), (doL x l).u.length ≤ x.u.length + sumL l
 | [], _ => Nat.le_refl _
 | c :: l, x => by
  have h1 := do1_len x c
  have h2 := doL_len l (do1 x c)
  show (doL (do1 x c) l).u.length ≤ x.u.length + (c.s.length + sumL l)
  omega
theorem doL_snoc (x : Cont) (l : List Chg) (c : Chg) : doL x (l ++ [c]) = do1 (doL x l) c := by
 unfold doL
 rw [List.foldl_append]
 rfl
theorem Legal_snoc : ∀ (l : List Chg) (x : Cont) (c : Chg), Legal x l → legal (doL x l) c → Legal x (l ++ [c])
 | [], _, _, _, h => ⟨h, trivial⟩
 | a :: l, x, c, h1, h2 => ⟨h1.1, Legal_snoc l (do1 x a) c h1.2 h2⟩
theorem sumL_snoc : ∀ (l : List Chg) (c : Chg), sumL (l ++ [c]) = sumL l + c.s.length
 | [], c => by
  show c.s.length + 0 = 0 + c.s.length
  omega
 | a :: l, c => by
  have := sumL_snoc l c
  show a.s.length + sumL (l ++ [c]) = a.s.length + sumL l + c.s.length
  omega
theorem Wp.lettG {α : Type} {a : α} {K : α → R} {Q : ARes → AHeap → Prop} (hk : ∀ x, x = a → Wp (K x) Q) : Wp (Abs.lett a K) Q := hk a rfl
def blkV : AV → List Nat
 | .sl c _ _ _ => [c]
 | _ => []
theorem slice_to {P : Program} {h : AHeap} {t e : TypeId} {b m sz k : Nat} {k1 : IntKind} (he : Abs.elemOf P t = some e) (hi : (P.info? e).isSome = true) (hsz : P.cellsOf e = sz) (h1 : k ≤ m) :
  sliceA P h t (.sl b 0 m sz) none (some (.int k1 (k : Int))) = some (.val (.sl b 0 k sz), h) := by
 have b1 : boundA (some (AV.int k1 (k : Int))) m = some k := rfl
 have b2 : boundA none 0 = some 0 := rfl
 simp only [sliceA, sliceRow, b1, b2, he]
 rw [if_pos ⟨Nat.ble_eq_true_of_le (Nat.zero_le k), Nat.ble_eq_true_of_le h1, hsz.symm, hi⟩, if_neg (fun hc => by have := Nat.le_of_ble_eq_true hc.2; omega), Nat.zero_mul, Nat.add_zero, Nat.sub_zero]
theorem fitBy : fitB Try.prog 5 1 = true := by kernel_rfl
def BufAt (h : AHeap) (v : AV) (u : Bytes) : Prop := (v = .nsl ∧ u = []) ∨ ∃ c rest, v = .sl c 0 u.length 1 ∧ RowH h c 5 (bytesC u ++ rest) ∧ c < h.next
section
variable {h h' : AHeap} {v : AV} {u : Bytes}
theorem BufAt.tch {S : List Nat} (k : BufAt h v u) (t : Tch S h h') (hd : ∀ b ∈ blkV v, b ∉ S) : BufAt h' v u := by
 rcases k with k | ⟨c, rest, rfl, h2, h3⟩
 ·exact .inl k
 ·exact .inr ⟨c, rest, rfl, h2.tch t h3 (hd c (List.mem_singleton.2 rfl)), Nat.lt_of_lt_of_le h3 t.1⟩
theorem BufAt.lt (k : BufAt h v u) : ∀ b ∈ blkV v, b < h.next := by
 rcases k with ⟨rfl, _⟩ | ⟨c, rest, rfl, _, h3⟩
 ·exact fun b hb => nomatch hb
 ·intro b hb
  rw [List.mem_singleton.1 hb]
  exact h3
theorem BufAt.len (k : BufAt h v u) : lenL v = some (u.length : Int) := by
 rcases k with ⟨rfl, rfl⟩ | ⟨c, rest, rfl, _⟩ <;> rfl
theorem BufAt.one (k : BufAt h v u) : v.one = true ∧ AV.cells v = [v] := by
 rcases k with ⟨rfl, rfl⟩ | ⟨c, rest, rfl, _⟩ <;> exact ⟨rfl, rfl⟩
theorem BufAt.app (k : BufAt h v u) (s : Bytes) (hx : h.ex = [89]) (hm : u.length + s.length ≤ 1000000000) :
  ∃ v' h', opAppend Try.prog h TBy 9 v (strA s) = some (.val v', h') ∧ BufAt h' v' (u ++ s) ∧ Tch (blkV v) h h' ∧ ∀ b ∈ blkV v', b ∈ blkV v ∨ h.next ≤ b := by
 have he : Abs.elemOf Try.prog TBy = some 5 := by kernel_rfl
 have hu : notInt Try.prog 9 = true := by kernel_rfl
 have hsz : Try.prog.cellsOf 5 = 1 := by kernel_rfl
 have hex : memB 5 h.ex = false := by rw [hx]; rfl
 by_cases h0 : s = []
 ·subst h0
  have hfit2 := bytesFit_of (P := Try.prog) (e := 5) (B := 1) (k := u.length + 0) fitBy (by omega) (by omega)
  rw [List.append_nil]
  refine ⟨v, h, ?_, k, Tch.refl _ _, fun b hb => .inl hb⟩
  rcases k with ⟨rfl, rfl⟩ | ⟨c, rest, rfl, _⟩
  ·have hl : lenA .nsl = some 0 := rfl
   have hx0 : lenA (strA []) = some 0 := rfl
   have hf : firstA h 1 0 (strA []) = some [] := firstA_str []
   unfold notInt at hu
   unfold opAppend
   split at hu
   ·cases hu
   ·rename_i ud hni heq
    have hfit3 : bytesFit Try.prog 5 (0 + 0) = true := hfit2
    simp only [he, hl, hx0, heq, hsz, hf, hfit3, hex, List.all_nil, and_self, if_true]
    rfl
   ·cases hu
  ·exact append_zero he hu hsz rfl rfl (firstA_str []) hfit2 hex
 ·obtain ⟨m, hm2⟩ : ∃ m, s.length = m + 1 := by
   cases s with
   | nil => exact absurd rfl h0
   | cons a l => exact ⟨l.length, rfl⟩
  have hf : firstA h 1 (m + 1) (strA s) = some (bytesC s) := by
   rw [← hm2]
   exact firstA_str s
  have hl : lenA (strA s) = some (m + 1) := by
   rw [← hm2]
   rfl
  rcases k with ⟨rfl, rfl⟩ | ⟨c, rest, rfl, h2, h3⟩
  ·have a1 := append_new (P := Try.prog) (h := h) (t := TBy) (u := 9) he hu hsz hl hf (bytesFit_of fitBy (by omega) (by omega)) (bytesC_one s) hex
   refine ⟨_, _, a1, .inr ⟨h.next, [], by rw [List.nil_append, hm2], ?_, Nat.lt_succ_self _⟩, Tch.newH _ _ _ _, fun b hb => .inr (by rw [List.mem_singleton.1 hb]; exact Nat.le_refl _)⟩
   rw [List.nil_append, List.append_nil]
   exact RowH.new _ _ _
  ·have hcl := bytesC_length u
   have a1 := append_more (P := Try.prog) (h := h) (t := TBy) (u := 9) (b := c) (o := 0) (m := u.length) (cs := bytesC u) he hu hsz hl hf (bytesFit_of fitBy (by omega) (by omega)) (bytesC_one s) hex (by
    have := h2.part (o := 0) (n := (bytesC u).length) (by rw [List.length_append]; omega)
    rw [List.drop_zero, List.take_left' rfl] at this
    rw [Nat.mul_one, ← hcl]
    exact this) h2.type
   refine ⟨_, _, a1, .inr ⟨h.next, [], by rw [List.length_append, hm2], ?_, Nat.lt_succ_self _⟩, (Tch.put (S := [c]) (.inl (List.mem_singleton.2 rfl)) _).trans (Tch.newH _ _ _ _), fun b hb => .inr (by rw [List.mem_singleton.1 hb]; exact Nat.le_refl _)⟩
   rw [bytesC_append, List.append_nil]
   exact RowH.new (h.put c .dead) _ _
theorem BufAt.cut (k : BufAt h v u) {n : Int} (h0 : 0 ≤ n) (h1 : n ≤ (u.length : Int)) : ∃ v', sliceA Try.prog h TBy v none (some (.int .i64 n)) = some (.val v', h) ∧ BufAt h v' (u.take n.toNat) ∧ blkV v' = blkV v := by
 obtain ⟨j, rfl⟩ : ∃ j : Nat, n = (j : Int) := ⟨n.toNat, by omega⟩
 rw [Int.toNat_natCast]
 have hj : j ≤ u.length := by omega
 rcases k with ⟨rfl, rfl⟩ | ⟨c, rest, rfl, h2, h3⟩
 ·have hj0 : j = 0 := by
   rw [List.length_nil] at hj
   omega
  subst hj0
  exact ⟨.nsl, by kernel_rfl, .inl ⟨rfl, rfl⟩, rfl⟩
 ·have hl : (u.take j).length = j := by rw [List.length_take]; omega
  refine ⟨.sl c 0 j 1, slice_to (P := Try.prog) (e := 5) (k1 := .i64) (by kernel_rfl) (by kernel_rfl) (by kernel_rfl) hj, .inr ⟨c, bytesC (u.drop j) ++ rest, by rw [hl], ?_, h3⟩, rfl⟩
  rw [← List.append_assoc, ← bytesC_append, List.take_append_drop]
  exact h2
end
def RdL (h : AHeap) (S : List Nat) (lv : AV) (l : List Chg) : Prop := lenL lv = some (l.length : Int) ∧ ∀ H, Tch S h H → ∀ (i : Nat) (hi : i < l.length), ∃ p, idxP 3 lv (i : Int) = some p ∧ ldRow H 3 p = some (chgC l[i])
end Go.Proofs.Ytpnccmlajhhpdaa
namespace Go.Proofs.Ytpnccmlajhhpdaa
open Go.RowKit Abs
theorem dropC {α : Type} {l : List α} {i : Nat} {a : α} {r : List α} (h : l.drop i = a :: r) : ∃ hi : i < l.length, l[i] = a ∧ l.drop (i + 1) = r := by
 have hi : i < l.length := by
  apply Nat.lt_of_not_le
  intro hh
  rw [List.drop_of_length_le hh] at h
  cases h
 rw [List.drop_eq_getElem_cons hi] at h
 injection h with h1 h2
 exact ⟨hi, h1, h2⟩
theorem dropN {α : Type} {l : List α} {i : Nat} (h : l.drop i = []) : l.length ≤ i := by
 apply Nat.le_of_not_lt
 intro hh
 rw [List.drop_eq_getElem_cons hh] at h
 cases h
theorem set4 {D : List AV} {o : Nat} {a b c d : AV} : (((D.set o a).set (o + 1) b).set o c).set (o + 1) d = (D.set o c).set (o + 1) d := by
 rw [List.set_comm b c (show o + 1 ≠ o by omega), List.set_set, List.set_set]
theorem set3 {D : List AV} {o : Nat} {a b d : AV} : ((D.set o a).set (o + 1) b).set (o + 1) d = (D.set o a).set (o + 1) d := List.set_set ..
theorem laid2 {l : List AV} {o : Nat} {a b : AV} (h : o + 1 < l.length) : laid l o [a, b] = (l.set o a).set (o + 1) b := by
 refine List.ext_getElem? fun i => ?_
 rw [laid_get (by show o + 2 ≤ _; omega)]
 by_cases h1 : i = o
 ·subst h1
  rw [if_pos ⟨Nat.le_refl _, by show i < i + 2; omega⟩, Nat.sub_self, List.getElem?_set_ne (by omega), List.getElem?_set_self (by omega)]
  rfl
 ·by_cases h2 : i = o + 1
  ·subst h2
   rw [if_pos ⟨by omega, by show o + 1 < o + 2; omega⟩, show o + 1 - o = 1 by omega, List.getElem?_set_self (by rw [List.length_set]; omega)]
   rfl
  ·rw [if_neg (fun hh => by have : i < o + 2 := hh.2; omega), List.getElem?_set_ne (by omega), List.getElem?_set_ne (by omega)]
structure DoAt (h H : AHeap) (db T o : Nat) (D : List AV) (v v' : AV) (x : Cont) : Prop where
 row : RowH H db T ((D.set o (.bool x.th)).set (o + 1) v')
 buf : BufAt H v' x.u
 ndb : db ∉ blkV v'
 sub : ∀ b ∈ blkV v', b ∈ blkV v ∨ h.next ≤ b
 tch : Tch (db :: blkV v) h H
 ex : H.ex = [89]
section
variable {n d db T o : Nat} {h : AHeap} {D : List AV} {v lv : AV} {l : List Chg} {Q : ARes → AHeap → Prop} {k4 : AHeap → R}
theorem do_loop (hdb : db < h.next) (ho : o + 1 < D.length) (rd : RdL h (db :: blkV v) lv l) (hl : l.length < 1000000) :
  ∀ (todo : List Chg) (i fu : Nat) (x : Cont) (v' : AV) (H : AHeap), l.drop i = todo → todo.length < fu → DoAt h H db T o D v v' x → Legal x todo → x.u.length + sumL todo ≤ 100000000 →
   (∀ H' v'', DoAt h H' db T o D v v'' (doL x todo) → Wp (k4 H') Q) → Wp (disk_content_do_L0 (.ptr db o) lv (l.length : Int) k4 fu (i : Int) H) Q
 | _, _, 0, _, _, _, _, hf, _, _, _, _ => by omega
 | [], i, fu + 1, x, v', H, hd, hf, K, _, _, hk => by
  have := dropN hd
  rw [disk_content_do_L0_s]
  unfold disk_content_do_L0b
  (first | (with_reducible first | refine Wp.join0 (fun _ _ => ?_) | refine Wp.join1 (fun _ _ => ?_) | refine Wp.join2 (fun _ _ => ?_)) | ((with_reducible first | refine Wp.lettw ?_ ?_ ?_ | refine Wp.lettu64 ?_ ?_ ?_ | refine Wp.lettu8 ?_ ?_ ?_ | refine Wp.lettu32 ?_ ?_ ?_); omega; omega) | (with_reducible refine Wp.lett ?_) | ((with_reducible apply Wp.obind); first | (with_reducible first | exact avInt_int _ _ | exact avBool_bool _ | exact avStr_str _ | exact nilC_ptr _ _ | exact fldP_ptr _ _ _ | exact avAgg_agg _ | exact extT_0 _ _ | exact extT_1 _ _ _ | exact extT_2 _ _ _ _ | assumption) | ((with_reducible first | apply RowH.cell' | apply RowH.ldAll); (with_reducible assumption); rfl)) | ((with_reducible refine Wp.ift ?_ ?_); first | (with_reducible first | rfl | assumption | exact Bool.not_false) | ((with_reducible first | apply decide_eq_true | apply not_df | apply bne_t | apply beq_t); omega)) | ((with_reducible refine Wp.iff ?_ ?_); first | (with_reducible first | rfl | assumption | exact Bool.not_true) | ((with_reducible first | apply decide_eq_false | apply not_dt | apply bne_f | apply beq_f); omega)) | ((with_reducible first | apply Wp.callN | apply Wp.callK); (with_reducible assumption)) | ((with_reducible apply Wp.outK); (with_reducible assumption)) | (with_reducible first | refine Wp.go0 (by assumption) ?_ | refine Wp.go1 (by assumption) ?_ | refine Wp.go2 (by assumption) ?_) | rw [newP_eq])
  refine Wp.iff (by rw [decide_eq_false_iff_not]; omega) ?_
  exact hk H v' K
 | c :: todo, i, fu + 1, x, v', H, hd, hf, K, hL, hb, hk => by
  obtain ⟨hi, hci, hd2⟩ := dropC hd
  rw [List.length_cons] at hf
  obtain ⟨p, i1, r1⟩ := rd.2 H K.tch i hi
  rw [hci] at r1
  have el : (i : Int) + 1 = ((i + 1 : Nat) : Int) := by omega
  have hs : sumL (c :: todo) = c.s.length + sumL todo := rfl
  have hlen : o + 1 < ((D.set o (.bool x.th)).set (o + 1) v').length := by rw [List.length_set, List.length_set]; exact ho
  have hn0 := K.tch.1
  rw [disk_content_do_L0_s]
  unfold disk_content_do_L0b
  (first | (with_reducible first | refine Wp.join0 (fun _ _ => ?_) | refine Wp.join1 (fun _ _ => ?_) | refine Wp.join2 (fun _ _ => ?_)) | ((with_reducible first | refine Wp.lettw ?_ ?_ ?_ | refine Wp.lettu64 ?_ ?_ ?_ | refine Wp.lettu8 ?_ ?_ ?_ | refine Wp.lettu32 ?_ ?_ ?_); omega; omega) | (with_reducible refine Wp.lett ?_) | ((with_reducible apply Wp.obind); first | (with_reducible first | exact avInt_int _ _ | exact avBool_bool _ | exact avStr_str _ | exact nilC_ptr _ _ | exact fldP_ptr _ _ _ | exact avAgg_agg _ | exact extT_0 _ _ | exact extT_1 _ _ _ | exact extT_2 _ _ _ _ | assumption) | ((with_reducible first | apply RowH.cell' | apply RowH.ldAll); (with_reducible assumption); rfl)) | ((with_reducible refine Wp.ift ?_ ?_); first | (with_reducible first | rfl | assumption | exact Bool.not_false) | ((with_reducible first | apply decide_eq_true | apply not_df | apply bne_t | apply beq_t); omega)) | ((with_reducible refine Wp.iff ?_ ?_); first | (with_reducible first | rfl | assumption | exact Bool.not_true) | ((with_reducible first | apply decide_eq_false | apply not_dt | apply bne_f | apply beq_f); omega)) | ((with_reducible first | apply Wp.callN | apply Wp.callK); (with_reducible assumption)) | ((with_reducible apply Wp.outK); (with_reducible assumption)) | (with_reducible first | refine Wp.go0 (by assumption) ?_ | refine Wp.go1 (by assumption) ?_ | refine Wp.go2 (by assumption) ?_) | rw [newP_eq])
  refine Wp.ift (by rw [decide_eq_true_eq]; omega) ?_
  refine Wp.obind i1 (Wp.obind r1 ?_)
  refine Wp.mnew (Mem.nil [] H) fun h2 M2 => ?_
  rw [newP_eq]
  refine Wp.sa0 M2 rfl rfl rfl fun h3 M3 => ?_
  have t3 := M3.tch
  have hn3 := t3.1
  have hx3 : h3.ex = [89] := by rw [M3.ex, K.ex]
  have kr := K.row.tch t3 (Nat.lt_of_lt_of_le hdb K.tch.1) (by simp)
  have kb := K.buf.tch t3 (fun _ _ => by simp)
  have hne : H.next ≠ db := by omega
  refine Wp.obind (RowH.cell' M3.at0.1 (show (chgC c)[0]? = some (.int .i64 (c.k : Int)) from rfl)) (Wp.obind (avInt_int _ _) ?_)
  refine Wp.lett ?_
  refine Wp.lettG fun k26 ek => ?_
  have next : ∀ (H' : AHeap) (v'' : AV), DoAt h H' db T o D v v'' (do1 x c) → Wp (k26 H') Q := by
   intro H' v'' K'
   rw [ek]
   (first | (with_reducible first | refine Wp.join0 (fun _ _ => ?_) | refine Wp.join1 (fun _ _ => ?_) | refine Wp.join2 (fun _ _ => ?_)) | ((with_reducible first | refine Wp.lettw ?_ ?_ ?_ | refine Wp.lettu64 ?_ ?_ ?_ | refine Wp.lettu8 ?_ ?_ ?_ | refine Wp.lettu32 ?_ ?_ ?_); omega; omega) | (with_reducible refine Wp.lett ?_) | ((with_reducible apply Wp.obind); first | (with_reducible first | exact avInt_int _ _ | exact avBool_bool _ | exact avStr_str _ | exact nilC_ptr _ _ | exact fldP_ptr _ _ _ | exact avAgg_agg _ | exact extT_0 _ _ | exact extT_1 _ _ _ | exact extT_2 _ _ _ _ | assumption) | ((with_reducible first | apply RowH.cell' | apply RowH.ldAll); (with_reducible assumption); rfl)) | ((with_reducible refine Wp.ift ?_ ?_); first | (with_reducible first | rfl | assumption | exact Bool.not_false) | ((with_reducible first | apply decide_eq_true | apply not_df | apply bne_t | apply beq_t); omega)) | ((with_reducible refine Wp.iff ?_ ?_); first | (with_reducible first | rfl | assumption | exact Bool.not_true) | ((with_reducible first | apply decide_eq_false | apply not_dt | apply bne_f | apply beq_f); omega)) | ((with_reducible first | apply Wp.callN | apply Wp.callK); (with_reducible assumption)) | ((with_reducible apply Wp.outK); (with_reducible assumption)) | (with_reducible first | refine Wp.go0 (by assumption) ?_ | refine Wp.go1 (by assumption) ?_ | refine Wp.go2 (by assumption) ?_) | rw [newP_eq])
   rw [el]
   have := do1_len x c
   exact do_loop hdb ho rd hl todo (i + 1) fu (do1 x c) v'' H' hd2 (by omega) K' hL.2 (by omega) hk
  have g1 : ((D.set o (.bool x.th)).set (o + 1) v')[o + 1]? = some v' := List.getElem?_set_self (by rw [List.length_set]; exact ho)
  rcases hL.1 with h0 | ⟨h1, hc0, hc1⟩ | h2
  ·refine Wp.ift (beq_t (by omega)) ?_
   have ed : do1 x c = ⟨true, x.u ++ c.s⟩ := by unfold do1; rw [if_pos h0]
   rw [ed] at next
   refine Wp.obind (nilC_ptr _ _) (Wp.obind (fldP_ptr _ _ _) ?_)
   refine Wp.st1 kr (show o + 0 < _ by omega) rfl fun h4 k4' t4 n4 => ?_
   have kb4 := kb.tch t4 (fun b hb hm => K.ndb (List.mem_singleton.1 hm ▸ hb))
   have kl4 := M3.at0.1.tch t4 M3.at0.2.1 (by simpa using hne)
   have g4 : (((D.set o (.bool x.th)).set (o + 1) v').set (o + 0) (.bool true))[o + 1]? = some v' := by rw [List.getElem?_set_ne (by omega)]; exact g1
   obtain ⟨v'', h5, e5, kb5, t5, s5⟩ := kb4.app c.s (by rw [t4.2.1, hx3]) (by omega)
   refine Wp.obind (nilC_ptr _ _) (Wp.obind (fldP_ptr _ _ _) (Wp.obind (RowH.cell' k4' g4) (Wp.obind (RowH.cell' kl4 (show (chgC c)[1]? = some (strA c.s) from rfl)) (Wp.obind (avStr_str _) (Wp.outK e5 ?_)))))
   refine Wp.obind (nilC_ptr _ _) (Wp.obind (fldP_ptr _ _ _) ?_)
   rw [kb5.one.2]
   have hdb4 : db < h4.next := by omega
   have kr5 := k4'.tch t5 hdb4 K.ndb
   have n5 := t5.1
   refine Wp.st1 kr5 (show o + 1 < _ by rw [List.length_set]; exact hlen) kb5.one.1 fun h6 k6 t6 n6 => ?_
   have hnd : db ∉ blkV v'' := fun hb => by
    rcases s5 _ hb with hb | hb
    ·exact K.ndb hb
    ·omega
   have ts : ∀ b ∈ blkV v', b ∈ db :: blkV v ∨ h.next ≤ b := fun b hb => (K.sub b hb).imp (List.mem_cons_of_mem _) id
   have td : ∀ b ∈ [db], b ∈ db :: blkV v ∨ h.next ≤ b := fun b hb => .inl (by rw [List.mem_singleton.1 hb]; exact List.mem_cons_self)
   refine next h6 v'' ⟨?_, kb5.tch t6 (fun b hb hm => hnd (List.mem_singleton.1 hm ▸ hb)), hnd, fun b hb => ?_, (((K.tch.trans' t3 fun b hb => nomatch hb).trans' t4 td).trans' t5 ts).trans' t6 td, by rw [t6.2.1, t5.2.1, t4.2.1, hx3]⟩
   ·have k6' : RowH h6 db T ((((D.set o (.bool x.th)).set (o + 1) v').set o (.bool true)).set (o + 1) v'') := k6
    rw [set4] at k6'
    exact k6'
   ·rcases s5 b hb with hb | hb
    ·exact K.sub b hb
    ·omega
  ·refine Wp.iff (beq_f (by omega)) ?_
   have ed : do1 x c = ⟨x.th, x.u.take c.n.toNat⟩ := by unfold do1; rw [if_neg (by omega), if_pos h1]
   rw [ed] at next
   obtain ⟨v'', e5, kb5, hb5⟩ := kb.cut hc0 hc1
   refine Wp.lett ?_
   refine Wp.lettG fun k47 ek47 => ?_
   refine Wp.ift (beq_t (by omega)) ?_
   refine Wp.obind (nilC_ptr _ _) (Wp.obind (fldP_ptr _ _ _) (Wp.obind (RowH.cell' kr g1) (Wp.obind (RowH.cell' M3.at0.1 (show (chgC c)[2]? = some (.int .i64 c.n) from rfl)) (Wp.obind (avInt_int _ _) (Wp.outK e5 ?_)))))
   refine Wp.obind (nilC_ptr _ _) (Wp.obind (fldP_ptr _ _ _) ?_)
   rw [kb5.one.2]
   refine Wp.st1 kr (show o + 1 < _ by exact hlen) kb5.one.1 fun h6 k6 t6 n6 => ?_
   rw [ek47]
   have hnd : db ∉ blkV v'' := by rw [hb5]; exact K.ndb
   have td : ∀ b ∈ [db], b ∈ db :: blkV v ∨ h.next ≤ b := fun b hb => .inl (by rw [List.mem_singleton.1 hb]; exact List.mem_cons_self)
   refine next h6 v'' ⟨?_, kb5.tch t6 (fun b hb hm => hnd (List.mem_singleton.1 hm ▸ hb)), hnd, (by rw [hb5]; exact K.sub), (K.tch.trans' t3 fun b hb => nomatch hb).trans' t6 td, by rw [t6.2.1, hx3]⟩
   have k6' := k6
   rw [set3] at k6'
   exact k6'
  ·refine Wp.iff (beq_f (by omega)) ?_
   have ed : do1 x c = ⟨false, []⟩ := by unfold do1; rw [if_neg (by omega), if_neg (by omega)]
   rw [ed] at next
   refine Wp.lett ?_
   refine Wp.lettG fun k47 ek47 => ?_
   refine Wp.iff (beq_f (by omega)) ?_
   refine Wp.lett ?_
   refine Wp.lettG fun k62 ek62 => ?_
   refine Wp.ift (beq_t (by omega)) ?_
   refine Wp.obind (nilC_ptr _ _) ?_
   refine Wp.stN kr (rfl : ([.bool false, .nsl] : List AV).length = 2) (show o + 2 ≤ _ by exact hlen) rfl fun h6 k6 t6 n6 => ?_
   rw [ek62, ek47]
   have td : ∀ b ∈ [db], b ∈ db :: blkV v ∨ h.next ≤ b := fun b hb => .inl (by rw [List.mem_singleton.1 hb]; exact List.mem_cons_self)
   refine next h6 .nsl ⟨?_, .inl ⟨rfl, rfl⟩, (fun h => nomatch h), (fun _ h => nomatch h), (K.tch.trans' t3 fun b hb => nomatch hb).trans' t6 td, by rw [t6.2.1, hx3]⟩
   have k6' := k6
   rw [laid2 hlen, set4] at k6'
   exact k6'
theorem do_ok {x : Cont} (hn : 1000000 < n) (hdb : db < h.next) (kr : RowH h db T D) (h0 : D[o]? = some (.bool x.th)) (h1 : D[o + 1]? = some v) (kb : BufAt h v x.u) (hnd : db ∉ blkV v) (hx : h.ex = [89]) (rd : RdL h (db :: blkV v) lv l) (hl : l.length < 1000000) (hL : Legal x l) (hb : x.u.length + sumL l ≤ 100000000) :
  ∃ h' v', world n (d + 1) 72 [.ptr db o, lv] h = some (.ret (.tup []), h') ∧ DoAt h h' db T o D v v' (doL x l) := by
 suffices hK : Wp (world n (d + 1) 72 [.ptr db o, lv] h) fun r h' => r = .ret (.tup []) ∧ ∃ v', DoAt h h' db T o D v v' (doL x l) by
  obtain ⟨_, h', e, rfl, v', k⟩ := hK
  exact ⟨h', v', e, k⟩
 rw [w_disk_content_do]
 unfold disk_content_do
 refine Wp.obind rd.1 ?_
 refine Wp.lettG fun k4 ek => ?_
 have ho : o + 1 < D.length := (List.getElem?_eq_some_iff.1 h1).1
 have e0 : (D.set o (.bool x.th)).set (o + 1) v = D := by
  obtain ⟨_, e1⟩ := List.getElem?_eq_some_iff.1 h0
  obtain ⟨_, e2⟩ := List.getElem?_eq_some_iff.1 h1
  rw [← e1, List.set_getElem_self, ← e2, List.set_getElem_self]
 refine do_loop hdb ho rd hl l 0 n x v h (List.drop_zero) (by omega) ⟨by rw [e0]; exact kr, kb, hnd, fun b hb => .inl hb, Tch.refl _ _, hx⟩ hL hb fun H' v'' K => ?_
 rw [ek]
 exact Wp.ret ⟨rfl, v'', K⟩
end
noncomputable def chgsC : List Chg → List AV
 | [] => []
 | c :: l => chgC c ++ chgsC l
theorem chgsC_len : ∀ l : List Chg, (chgsC l).length = 3 * l.length
 | [] => rfl
 | c :: l => by
  have := chgsC_len l
  rw [chgsC, List.length_append, this, List.length_cons]
  show 3 + _ = _
  omega
theorem chgsC_app : ∀ a b : List Chg, chgsC (a ++ b) = chgsC a ++ chgsC b
 | [], _ => rfl
 | c :: a, b => by rw [List.cons_append, chgsC, chgsC_app a b, chgsC, List.append_assoc]
def LooseAt (h : AHeap) (v : AV) (l : List Chg) : Prop := (v = .nsl ∧ l = []) ∨ ∃ c, v = .sl c 0 l.length 3 ∧ RowH h c TChg (chgsC l) ∧ c < h.next
theorem fitChg : fitB Try.prog TChg 32 = true := by kernel_rfl
theorem bldSlChg (h : AHeap) (k : Int) (s : Bytes) (n : Int) : bldSl Try.prog h TChgs 1 [(0, .agg [.int .i64 k, strA s, .int .i64 n])] = outNewS h TChg [.int .i64 k, strA s, .int .i64 n] 1 3 := by kernel_rfl
theorem idx3 {b m i : Nat} (h : i < m) : idxP 3 (.sl b 0 m 3) (i : Int) = some (.ptr b (0 + i * 3)) := by
 have e : Nat.blt i m = true := by simpa using h
 show (match Nat.blt i m with | true => some (AV.ptr b (0 + i * 3)) | false => none) = _
 rw [e]
theorem firstRow {h : AHeap} {b e sz : Nat} {r : List AV} (kr : RowH h b e r) (hr : r.length = sz) : firstA h sz (0 + 1) (.sl b 0 1 sz) = some r := by
 rw [Nat.zero_add, firstA_of_row (Nat.le_refl _), Nat.one_mul]
 have := kr.part (o := 0) (n := r.length) (by omega)
 rw [List.drop_zero, List.take_length, hr] at this
 exact this
section
variable {h h' : AHeap} {v : AV} {l : List Chg} {b1 : Nat} {c : Chg}
theorem LooseAt.tch {S : List Nat} (k : LooseAt h v l) (t : Tch S h h') (hd : ∀ b ∈ blkV v, b ∉ S) : LooseAt h' v l := by
 rcases k with k | ⟨c, rfl, h2, h3⟩
 ·exact .inl k
 ·exact .inr ⟨c, rfl, h2.tch t h3 (hd c (List.mem_singleton.2 rfl)), Nat.lt_of_lt_of_le h3 t.1⟩
theorem LooseAt.lt (k : LooseAt h v l) : ∀ b ∈ blkV v, b < h.next := by
 rcases k with ⟨rfl, _⟩ | ⟨c, rfl, _, h3⟩
 ·exact fun b hb => nomatch hb
 ·intro b hb
  rw [List.mem_singleton.1 hb]
  exact h3
theorem LooseAt.one (k : LooseAt h v l) : v.one = true ∧ AV.cells v = [v] := by
 rcases k with ⟨rfl, rfl⟩ | ⟨c, rfl, _⟩ <;> exact ⟨rfl, rfl⟩
theorem chgs_ld {c i : Nat} {rest : List AV} (k : RowH h c TChg (chgsC l ++ rest)) (hi : i < l.length) : ldRow h 3 (.ptr c (0 + i * 3)) = some (chgC l[i]) := by
 have e : chgsC l = chgsC (l.take i) ++ (chgC l[i] ++ chgsC (l.drop (i + 1))) := by
  have := chgsC_app (l.take i) (l.drop i)
  rw [List.take_append_drop] at this
  rw [this, List.drop_eq_getElem_cons hi, chgsC]
 have hl : (chgsC (l.take i)).length = 0 + i * 3 := by rw [chgsC_len, List.length_take]; omega
 rw [k.ld (by rw [List.length_append, chgsC_len]; omega), e, List.append_assoc, List.append_assoc, List.drop_left' hl]
 congr 1
theorem LooseAt.rd {S : List Nat} (k : LooseAt h v l) (hS : ∀ b ∈ blkV v, b ∉ S) : RdL h S v l := by
 rcases k with ⟨rfl, rfl⟩ | ⟨c, rfl, h2, h3⟩
 ·exact ⟨rfl, fun _ _ i hi => absurd hi (Nat.not_lt_zero _)⟩
 ·refine ⟨rfl, fun H t i hi => ⟨_, idx3 hi, ?_⟩⟩
  have k2 := h2.tch t h3 (hS c (List.mem_singleton.2 rfl))
  exact chgs_ld (rest := []) (by rw [List.append_nil]; exact k2) hi
theorem LooseAt.push (k : LooseAt h v l) (kr : RowH h b1 TChg (chgC c)) (hm : l.length < 20000000) (hx : h.ex = [89]) :
  ∃ h', opAppend Try.prog h TChgs TChgs v (.sl b1 0 1 3) = some (.val (.sl h.next 0 (l.length + 1) 3), h') ∧ LooseAt h' (.sl h.next 0 (l.length + 1) 3) (l ++ [c]) ∧ Tch (blkV v) h h' := by
 have he : Abs.elemOf Try.prog TChgs = some TChg := by kernel_rfl
 have hu : notInt Try.prog TChgs = true := by kernel_rfl
 have hsz : Try.prog.cellsOf TChg = 3 := by kernel_rfl
 have hex : memB TChg h.ex = false := by rw [hx]; rfl
 have eb : chgsC (l ++ [c]) = chgsC l ++ chgC c := by
  rw [chgsC_app]
  show chgsC l ++ (chgC c ++ []) = _
  rw [List.append_nil]
 have el : l.length + 1 = (l ++ [c]).length := by rw [List.length_append, List.length_singleton]
 rcases k with ⟨rfl, rfl⟩ | ⟨b, rfl, h2, h3⟩
 ·have a1 := append_new (P := Try.prog) (h := h) (t := TChgs) (u := TChgs) (n := 0) (x := .sl b1 0 1 3) he hu hsz rfl (firstRow kr rfl) (bytesFit_of fitChg (by omega) (by omega)) rfl hex
  refine ⟨_, a1, .inr ⟨h.next, by rw [el], ?_, Nat.lt_succ_self _⟩, Tch.newH _ _ _ _⟩
  rw [eb]
  exact RowH.new _ _ _
 ·have hcl := chgsC_len l
  have a1 := append_more (P := Try.prog) (h := h) (t := TChgs) (u := TChgs) (b := b) (o := 0) (m := l.length) (n := 0) (x := .sl b1 0 1 3) (cs := chgsC l) he hu hsz rfl (firstRow kr rfl) (bytesFit_of fitChg (by omega) (by omega)) rfl hex (by
   have := h2.part (o := 0) (n := (chgsC l).length) (by omega)
   rw [List.drop_zero, List.take_length] at this
   rw [show l.length * 3 = (chgsC l).length by omega]
   exact this) h2.type
  refine ⟨_, a1, .inr ⟨h.next, by rw [el], ?_, Nat.lt_succ_self _⟩, (Tch.put (S := [b]) (.inl (List.mem_singleton.2 rfl)) _).trans (Tch.newH _ _ _ _)⟩
  rw [eb]
  exact RowH.new (h.put b .dead) _ _
end
structure FileS where
 sure : Cont
 seen : Cont
 loose : List Chg
def upd {α : Type} (f : Nat → α) (i : Nat) (x : α) : Nat → α := fun j => if j = i then x else f j
def FileOk (x : FileS) (B : Nat) : Prop := x.seen = doL x.sure x.loose ∧ Legal x.sure x.loose ∧ x.sure.u.length + sumL x.loose ≤ B ∧ x.loose.length ≤ B
structure FileC (D : List AV) (f : Nat) (x : FileS) (w : Nat → AV) : Prop where
 c0 : D[5 * f]? = some (.bool x.sure.th)
 c1 : D[5 * f + 1]? = some (w 0)
 c2 : D[5 * f + 2]? = some (.bool x.seen.th)
 c3 : D[5 * f + 3]? = some (w 1)
 c4 : D[5 * f + 4]? = some (w 2)
structure FileM (h : AHeap) (x : FileS) (w : Nat → AV) : Prop where
 sure : BufAt h (w 0) x.sure.u
 seen : BufAt h (w 1) x.seen.u
 loose : LooseAt h (w 2) x.loose
structure DiskAt (lo : Nat → Prop) (h : AHeap) (db : Nat) (D : List AV) (fs : Nat → FileS) (vs : Nat → Nat → AV) (p : Int) (ops B : Nat) : Prop where
 row : RowH h db TDisk D
 hdb : db < h.next
 hlo : lo db
 len : D.length = 162
 cells : ∀ f, f < 32 → FileC D f (fs f) (vs f)
 cp : D[160]? = some (.int .i64 p)
 co : D[161]? = some (.int .i64 (ops : Int))
 mem : ∀ f, f < 32 → FileM h (fs f) (vs f)
 own : ∃ g : Nat → Nat, g db = 0 ∧ ∀ f k, f < 32 → k < 3 → ∀ b ∈ blkV (vs f k), g b = 3 * f + k + 1
 low : ∀ f k, f < 32 → k < 3 → ∀ b ∈ blkV (vs f k), lo b
 ok : ∀ f, f < 32 → FileOk (fs f) B
 ex : h.ex = [89]
 hp : -1 ≤ p ∧ p < 9223372036854775808
 ho : ops ≤ B
 nw : ∀ b, h.next ≤ b → lo b
theorem FileM.lt {h : AHeap} {x : FileS} {w : Nat → AV} (k : FileM h x w) : ∀ i, i < 3 → ∀ b ∈ blkV (w i), b < h.next := by
 intro i hi
 rcases i with _ | _ | _ | i
 ·exact k.sure.lt
 ·exact k.seen.lt
 ·exact k.loose.lt
 ·omega
theorem FileM.tch {h h' : AHeap} {S : List Nat} {x : FileS} {w : Nat → AV} (k : FileM h x w) (t : Tch S h h') (hS : ∀ i, i < 3 → ∀ b ∈ blkV (w i), b ∉ S) : FileM h' x w :=
 ⟨k.sure.tch t (hS 0 (by decide)), k.seen.tch t (hS 1 (by decide)), k.loose.tch t (hS 2 (by decide))⟩
section
variable {lo : Nat → Prop} {n d db : Nat} {h h' : AHeap} {D D' : List AV} {fs : Nat → FileS} {vs : Nat → Nat → AV} {p : Int} {ops B B' f : Nat}
theorem DiskAt.lt (K : DiskAt lo h db D fs vs p ops B) {f k : Nat} (hf : f < 32) (hk : k < 3) : ∀ b ∈ blkV (vs f k), b < h.next := (K.mem f hf).lt k hk
theorem DiskAt.nd (K : DiskAt lo h db D fs vs p ops B) {f k : Nat} (hf : f < 32) (hk : k < 3) : db ∉ blkV (vs f k) := fun hb => by
 obtain ⟨g, g0, g1⟩ := K.own
 have := g1 f k hf hk _ hb
 omega
theorem DiskAt.ne (K : DiskAt lo h db D fs vs p ops B) {f k f' k' : Nat} (hf : f < 32) (hk : k < 3) (hf' : f' < 32) (hk' : k' < 3) (hne : ¬ (f = f' ∧ k = k')) : ∀ b ∈ blkV (vs f k), b ∉ blkV (vs f' k') := fun b hb hb' => by
 obtain ⟨g, g0, g1⟩ := K.own
 have h1 := g1 f k hf hk _ hb
 have h2 := g1 f' k' hf' hk' _ hb'
 omega
theorem DiskAt.upd {S : List Nat} {x : FileS} {w : Nat → AV} (K : DiskAt lo h db D fs vs p ops B) (hf : f < 32) (t : Tch S h h') (hS : ∀ b ∈ S, b = db ∨ ∃ k, k < 3 ∧ b ∈ blkV (vs f k)) (row : RowH h' db TDisk D') (hlen : D'.length = 162) (hc : FileC D' f x w) (rest : ∀ i, (i < 5 * f ∨ 5 * f + 5 ≤ i) → D'[i]? = D[i]?)
  (bw : ∀ k, k < 3 → ∀ b ∈ blkV (w k), b ∈ blkV (vs f k) ∨ h.next ≤ b) (bd : ∀ k l, k < 3 → l < 3 → k ≠ l → ∀ b ∈ blkV (w k), b ∉ blkV (w l)) (hm : FileM h' x w) (hok : FileOk x B') (hB : B ≤ B') : DiskAt lo h' db D' (upd fs f x) (upd vs f w) p ops B' := by
 obtain ⟨g, g0, g1⟩ := K.own
 have hle := t.1
 have hdn := K.hdb
 have ot : ∀ f', f' < 32 → f' ≠ f → ∀ k, k < 3 → ∀ b ∈ blkV (vs f' k), b ∉ S := fun f' hf' hne k hk b hb hm => by
  rcases hS b hm with rfl | ⟨k', hk', hb'⟩
  ·exact K.nd hf' hk hb
  ·exact K.ne hf' hk hf hk' (fun h => hne h.1) b hb hb'
 refine ⟨row, Nat.lt_of_lt_of_le hdn hle, K.hlo, hlen, fun f' hf' => ?_, ?_, ?_, fun f' hf' => ?_, ⟨fun b => if b < h.next then g b else if b ∈ blkV (w 0) then 3 * f + 1 else if b ∈ blkV (w 1) then 3 * f + 2 else 3 * f + 3, ?_, fun f' k hf' hk b hb => ?_⟩, fun f' k hf' hk b hb => ?_, fun f' hf' => ?_, by rw [t.2.1, K.ex], K.hp, Nat.le_trans K.ho hB, fun b hb => K.nw b (Nat.le_trans hle hb)⟩
 ·unfold Go.Proofs.Ytpnccmlajhhpdaa.upd
  by_cases e : f' = f
  ·rw [if_pos e, if_pos e, e]
   exact hc
  ·rw [if_neg e, if_neg e]
   have hk := K.cells f' hf'
   have key : ∀ j, j < 5 → D'[5 * f' + j]? = D[5 * f' + j]? := fun j hj => rest _ (by omega)
   exact ⟨(key 0 (by decide)).trans hk.c0, (key 1 (by decide)).trans hk.c1, (key 2 (by decide)).trans hk.c2, (key 3 (by decide)).trans hk.c3, (key 4 (by decide)).trans hk.c4⟩
 ·rw [rest _ (by omega)]
  exact K.cp
 ·rw [rest _ (by omega)]
  exact K.co
 ·unfold Go.Proofs.Ytpnccmlajhhpdaa.upd
  by_cases e : f' = f
  ·rw [if_pos e, if_pos e]
   exact hm
  ·rw [if_neg e, if_neg e]
   exact (K.mem f' hf').tch t (ot f' hf' e)
 ·show (if db < h.next then g db else _) = 0
  rw [if_pos hdn]
  exact g0
 ·show (if b < h.next then g b else _) = _
  unfold Go.Proofs.Ytpnccmlajhhpdaa.upd at hb
  by_cases e : f' = f
  ·rw [if_pos e] at hb
   subst e
   by_cases hl : b < h.next
   ·rw [if_pos hl]
    rcases bw k hk b hb with hb' | hb'
    ·exact g1 f' k hf' hk b hb'
    ·omega
   ·rw [if_neg hl]
    rcases k with _ | _ | _ | k
    ·rw [if_pos hb]
    ·rw [if_neg (bd 1 0 (by decide) (by decide) (by decide) b hb), if_pos hb]
    ·rw [if_neg (bd 2 0 (by decide) (by decide) (by decide) b hb), if_neg (bd 2 1 (by decide) (by decide) (by decide) b hb)]
    ·omega
  ·rw [if_neg e] at hb
   rw [if_pos (K.lt hf' hk b hb)]
   exact g1 f' k hf' hk b hb
 ·unfold Go.Proofs.Ytpnccmlajhhpdaa.upd at hb
  by_cases e : f' = f
  ·rw [if_pos e] at hb
   rcases bw k hk b hb with hb' | hb'
   ·exact K.low f k hf hk b hb'
   ·exact K.nw b hb'
  ·rw [if_neg e] at hb
   exact K.low f' k hf' hk b hb
 ·unfold Go.Proofs.Ytpnccmlajhhpdaa.upd
  by_cases e : f' = f
  ·rw [if_pos e]
   exact hok
  ·rw [if_neg e]
   obtain ⟨o1, o2, o3, o4⟩ := K.ok f' hf'
   exact ⟨o1, o2, by omega, by omega⟩
theorem DiskAt.tch {S : List Nat} (K : DiskAt lo h db D fs vs p ops B) (t : Tch S h h') (hS : ∀ b ∈ S, ¬ lo b ∨ h.next ≤ b) : DiskAt lo h' db D fs vs p ops B := by
 have hd := K.hdb
 have hl := K.hlo
 refine ⟨K.row.tch t hd fun hb => ?_, Nat.lt_of_lt_of_le hd t.1, hl, K.len, K.cells, K.cp, K.co, fun f hf => (K.mem f hf).tch t fun k hk b hb hm => ?_, K.own, K.low, K.ok, by rw [t.2.1, K.ex], K.hp, K.ho, fun b hb => K.nw b (Nat.le_trans t.1 hb)⟩
 ·rcases hS _ hb with hb | hb
  ·exact hb hl
  ·omega
 ·have h2 := K.lt hf hk b hb
  rcases hS _ hm with hm | hm
  ·exact hm (K.low f k hf hk b hb)
  ·omega
theorem eqDisk (b o : Nat) (h : AHeap) : opBin Try.prog h .eql 36 true (some (.ptr b o)) (some AV.nilp) = some (.val (.bool false), h) := by kernel_rfl
theorem neqDisk (b o : Nat) (h : AHeap) : opBin Try.prog h .neq 36 true (some (.ptr b o)) (some AV.nilp) = some (.val (.bool true), h) := by kernel_rfl
def stepP (p : Int) : Int := if 0 < p then p - 1 else p
theorem step_ok (K : DiskAt lo h db D fs vs p ops B) (hB : B < 10000000) : ∃ h' D', world n (d + 1) 74 [.ptr db 0] h = some (.ret (.tup []), h') ∧ DiskAt lo h' db D' fs vs (stepP p) (ops + 1) (B + 1) ∧ Tch [db] h h' := by
 suffices hK : Wp (world n (d + 1) 74 [.ptr db 0] h) fun r h' => ∃ D', r = .ret (.tup []) ∧ DiskAt lo h' db D' fs vs (stepP p) (ops + 1) (B + 1) ∧ Tch [db] h h' by
  obtain ⟨_, h', e, D', rfl, k⟩ := hK
  exact ⟨h', D', e, k⟩
 rw [w_disk_Disk_step]
 unfold disk_Disk_step
 have hp := K.hp
 have ho := K.ho
 have hl := K.len
 have fin : ∀ {H : AHeap} {E : List AV}, RowH H db TDisk E → E.length = 162 → (∀ i, i < 160 → E[i]? = D[i]?) → E[160]? = some (.int .i64 (stepP p)) → E[161]? = some (.int .i64 ((ops + 1 : Nat) : Int)) → Tch [db] h H → DiskAt lo H db E fs vs (stepP p) (ops + 1) (B + 1) := by
  intro H E kr hE hr e1 e2 t
  refine ⟨kr, Nat.lt_of_lt_of_le K.hdb t.1, K.hlo, hE, fun f hf => ?_, e1, e2, fun f hf => (K.mem f hf).tch t fun k hk b hb hm => K.nd hf hk (List.mem_singleton.1 hm ▸ hb), K.own, K.low, fun f hf => ?_, by rw [t.2.1, K.ex], ?_, by omega, fun b hb => K.nw b (Nat.le_trans t.1 hb)⟩
  ·have hk := K.cells f hf
   have key : ∀ j, j < 5 → E[5 * f + j]? = D[5 * f + j]? := fun j hj => hr _ (by omega)
   exact ⟨(key 0 (by decide)).trans hk.c0, (key 1 (by decide)).trans hk.c1, (key 2 (by decide)).trans hk.c2, (key 3 (by decide)).trans hk.c3, (key 4 (by decide)).trans hk.c4⟩
  ·obtain ⟨o1, o2, o3, o4⟩ := K.ok f hf
   exact ⟨o1, o2, by omega, by omega⟩
  ·unfold stepP
   split <;> omega
 have c1 := RowH.cell' K.row K.co
 refine Wp.obind (nilC_ptr _ _) (Wp.obind (fldP_ptr _ _ _) (Wp.obind c1 (Wp.obind (avInt_int _ _) ?_)))
 refine Wp.lettw (by omega) (by omega) ?_
 refine Wp.obind (nilC_ptr _ _) (Wp.obind (fldP_ptr _ _ _) ?_)
 refine Wp.st1 K.row (show 0 + 161 < D.length by omega) rfl fun h2 k2 t2 n2 => ?_
 have g0 : (D.set (0 + 161) (.int .i64 ((ops : Int) + 1)))[0 + 160]? = some (.int .i64 p) := by
  rw [List.getElem?_set_ne (by omega)]
  exact K.cp
 have g1 : (D.set (0 + 161) (.int .i64 ((ops : Int) + 1)))[161]? = some (.int .i64 ((ops + 1 : Nat) : Int)) := by
  rw [List.getElem?_set_self (by omega)]
  rfl
 refine Wp.obind (nilC_ptr _ _) (Wp.obind (fldP_ptr _ _ _) (Wp.obind (RowH.cell' k2 g0) (Wp.obind (avInt_int _ _) ?_)))
 refine Wp.lett ?_
 refine Wp.lettG fun k17 ek => ?_
 by_cases h0 : 0 < p
 ·refine Wp.ift (by rw [decide_eq_true_eq]; exact h0) ?_
  refine Wp.obind (nilC_ptr _ _) (Wp.obind (fldP_ptr _ _ _) (Wp.obind (RowH.cell' k2 g0) (Wp.obind (avInt_int _ _) ?_)))
  refine Wp.lettw (by omega) (by omega) ?_
  refine Wp.obind (nilC_ptr _ _) (Wp.obind (fldP_ptr _ _ _) ?_)
  refine Wp.st1 k2 (show 0 + 160 < _ by rw [List.length_set]; omega) rfl fun h3 k3 t3 n3 => ?_
  rw [ek]
  refine Wp.ret ⟨_, rfl, fin k3 (by rw [List.length_set, List.length_set]; exact hl) (fun i hi => by rw [List.getElem?_set_ne (by omega), List.getElem?_set_ne (by omega)]) ?_ (by rw [List.getElem?_set_ne (by omega)]; exact g1) (t2.trans t3), t2.trans t3⟩
  rw [List.getElem?_set_self (by rw [List.length_set]; omega)]
  unfold stepP
  rw [if_pos h0]
 ·refine Wp.iff (by rw [decide_eq_false_iff_not]; exact h0) ?_
  rw [ek]
  refine Wp.ret ⟨_, rfl, fin k2 (by rw [List.length_set]; exact hl) (fun i hi => by rw [List.getElem?_set_ne (by omega)]) ?_ g1 t2, t2⟩
  have g0' := g0
  rw [Nat.zero_add] at g0'
  unfold stepP
  rw [if_neg h0]
  exact g0'
theorem on_w (K : DiskAt lo h db D fs vs p ops B) : world n (d + 1) 59 [.ptr db 0] h = some (.ret (.bool (decide (p ≠ 0))), h) := by
 apply Wp.eq
 rw [w_disk_Disk_On]
 unfold disk_Disk_On
 have e : (p != 0) = decide (p ≠ 0) := by
  by_cases h0 : p = 0
  ·subst h0
   rfl
  ·rw [bne_iff_ne.2 h0, decide_eq_true h0]
 refine Wp.outK (neqDisk db 0 h) (Wp.obind (avBool_bool _) ?_)
 refine Wp.lettG fun j11 ej => ?_
 refine Wp.ift rfl ?_
 refine Wp.obind (nilC_ptr _ _) (Wp.obind (fldP_ptr _ _ _) (Wp.obind (RowH.cell' K.row (by rw [Nat.zero_add]; exact K.cp)) (Wp.obind (avInt_int _ _) ?_)))
 refine Wp.lett ?_
 rw [ej, e]
 exact Wp.ret ⟨rfl, rfl⟩
theorem isFile_w (z : Int) : world n (d + 1) 53 [.int .i64 z] h = some (.ret (.bool (decide (0 ≤ z ∧ z < 32))), h) := by
 apply Wp.eq
 rw [w_disk_isFile]
 refine Wp.gc ?_
 suffices hK : Wp (disk_isFile (world n d) n z h) fun r h' => r = .ret (.bool (decide (0 ≤ z ∧ z < 32))) ∧ h' = h from hK.mono fun r h' ⟨e, t⟩ => ⟨by rw [t]; exact (Tch.refl [] h).above, by rw [e]; rfl, e, rfl⟩
 unfold disk_isFile
 refine Wp.lett ?_
 refine Wp.lettG fun j8 ej => ?_
 by_cases h0 : 0 ≤ z
 ·refine Wp.ift (by rw [decide_eq_true_eq]; exact h0) ?_
  refine Wp.lett ?_
  rw [ej]
  have e : decide (z < 32) = decide (0 ≤ z ∧ z < 32) := decide_eq_decide.2 ⟨fun h => ⟨h0, h⟩, fun h => h.2⟩
  rw [e]
  exact Wp.ret ⟨rfl, rfl⟩
 ·refine Wp.iff (by rw [decide_eq_false_iff_not]; exact h0) ?_
  rw [ej, decide_eq_false (show ¬ (0 ≤ z ∧ z < 32) from fun h => h0 h.1)]
  exact Wp.ret ⟨rfl, rfl⟩
def refP (p z : Int) : Int := if p = 0 then 40 else if 0 ≤ z ∧ z < 32 then 0 else 2
theorem refuses_w (K : DiskAt lo h db D fs vs p ops B) (z : Int) : world n (d + 2) 50 [.ptr db 0, .int .i64 z] h = some (.ret (.int .i64 (refP p z)), h) := by
 apply Wp.eq
 rw [w_disk_Disk_refuses]
 unfold disk_Disk_refuses
 refine Wp.outK (eqDisk db 0 h) (Wp.obind (avBool_bool _) (Wp.iff rfl ?_))
 refine Wp.callN (on_w K) (Wp.obind (avBool_bool _) ?_)
 unfold refP
 by_cases h0 : p = 0
 ·rw [if_pos h0, decide_eq_false (show ¬ p ≠ 0 from fun h => h h0)]
  repeat (first | (with_reducible first | refine Wp.join0 (fun _ _ => ?_) | refine Wp.join1 (fun _ _ => ?_) | refine Wp.join2 (fun _ _ => ?_)) | ((with_reducible first | refine Wp.lettw ?_ ?_ ?_ | refine Wp.lettu64 ?_ ?_ ?_ | refine Wp.lettu8 ?_ ?_ ?_ | refine Wp.lettu32 ?_ ?_ ?_); omega; omega) | (with_reducible refine Wp.lett ?_) | ((with_reducible apply Wp.obind); first | (with_reducible first | exact avInt_int _ _ | exact avBool_bool _ | exact avStr_str _ | exact nilC_ptr _ _ | exact fldP_ptr _ _ _ | exact avAgg_agg _ | exact extT_0 _ _ | exact extT_1 _ _ _ | exact extT_2 _ _ _ _ | assumption) | ((with_reducible first | apply RowH.cell' | apply RowH.ldAll); (with_reducible assumption); rfl)) | ((with_reducible refine Wp.ift ?_ ?_); first | (with_reducible first | rfl | assumption | exact Bool.not_false) | ((with_reducible first | apply decide_eq_true | apply not_df | apply bne_t | apply beq_t); omega)) | ((with_reducible refine Wp.iff ?_ ?_); first | (with_reducible first | rfl | assumption | exact Bool.not_true) | ((with_reducible first | apply decide_eq_false | apply not_dt | apply bne_f | apply beq_f); omega)) | ((with_reducible first | apply Wp.callN | apply Wp.callK); (with_reducible assumption)) | ((with_reducible apply Wp.outK); (with_reducible assumption)) | (with_reducible first | refine Wp.go0 (by assumption) ?_ | refine Wp.go1 (by assumption) ?_ | refine Wp.go2 (by assumption) ?_) | rw [newP_eq])
  exact Wp.ret ⟨rfl, rfl⟩
 ·rw [if_neg h0, decide_eq_true (show p ≠ 0 from h0)]
  refine Wp.lett (Wp.iff rfl ?_)
  refine Wp.callN (isFile_w z) (Wp.obind (avBool_bool _) ?_)
  by_cases h1 : 0 ≤ z ∧ z < 32
  ·rw [if_pos h1, decide_eq_true h1]
   repeat (first | (with_reducible first | refine Wp.join0 (fun _ _ => ?_) | refine Wp.join1 (fun _ _ => ?_) | refine Wp.join2 (fun _ _ => ?_)) | ((with_reducible first | refine Wp.lettw ?_ ?_ ?_ | refine Wp.lettu64 ?_ ?_ ?_ | refine Wp.lettu8 ?_ ?_ ?_ | refine Wp.lettu32 ?_ ?_ ?_); omega; omega) | (with_reducible refine Wp.lett ?_) | ((with_reducible apply Wp.obind); first | (with_reducible first | exact avInt_int _ _ | exact avBool_bool _ | exact avStr_str _ | exact nilC_ptr _ _ | exact fldP_ptr _ _ _ | exact avAgg_agg _ | exact extT_0 _ _ | exact extT_1 _ _ _ | exact extT_2 _ _ _ _ | assumption) | ((with_reducible first | apply RowH.cell' | apply RowH.ldAll); (with_reducible assumption); rfl)) | ((with_reducible refine Wp.ift ?_ ?_); first | (with_reducible first | rfl | assumption | exact Bool.not_false) | ((with_reducible first | apply decide_eq_true | apply not_df | apply bne_t | apply beq_t); omega)) | ((with_reducible refine Wp.iff ?_ ?_); first | (with_reducible first | rfl | assumption | exact Bool.not_true) | ((with_reducible first | apply decide_eq_false | apply not_dt | apply bne_f | apply beq_f); omega)) | ((with_reducible first | apply Wp.callN | apply Wp.callK); (with_reducible assumption)) | ((with_reducible apply Wp.outK); (with_reducible assumption)) | (with_reducible first | refine Wp.go0 (by assumption) ?_ | refine Wp.go1 (by assumption) ?_ | refine Wp.go2 (by assumption) ?_) | rw [newP_eq])
   exact Wp.ret ⟨rfl, rfl⟩
  ·rw [if_neg h1, decide_eq_false h1]
   repeat (first | (with_reducible first | refine Wp.join0 (fun _ _ => ?_) | refine Wp.join1 (fun _ _ => ?_) | refine Wp.join2 (fun _ _ => ?_)) | ((with_reducible first | refine Wp.lettw ?_ ?_ ?_ | refine Wp.lettu64 ?_ ?_ ?_ | refine Wp.lettu8 ?_ ?_ ?_ | refine Wp.lettu32 ?_ ?_ ?_); omega; omega) | (with_reducible refine Wp.lett ?_) | ((with_reducible apply Wp.obind); first | (with_reducible first | exact avInt_int _ _ | exact avBool_bool _ | exact avStr_str _ | exact nilC_ptr _ _ | exact fldP_ptr _ _ _ | exact avAgg_agg _ | exact extT_0 _ _ | exact extT_1 _ _ _ | exact extT_2 _ _ _ _ | assumption) | ((with_reducible first | apply RowH.cell' | apply RowH.ldAll); (with_reducible assumption); rfl)) | ((with_reducible refine Wp.ift ?_ ?_); first | (with_reducible first | rfl | assumption | exact Bool.not_false) | ((with_reducible first | apply decide_eq_true | apply not_df | apply bne_t | apply beq_t); omega)) | ((with_reducible refine Wp.iff ?_ ?_); first | (with_reducible first | rfl | assumption | exact Bool.not_true) | ((with_reducible first | apply decide_eq_false | apply not_dt | apply bne_f | apply beq_f); omega)) | ((with_reducible first | apply Wp.callN | apply Wp.callK); (with_reducible assumption)) | ((with_reducible apply Wp.outK); (with_reducible assumption)) | (with_reducible first | refine Wp.go0 (by assumption) ?_ | refine Wp.go1 (by assumption) ?_ | refine Wp.go2 (by assumption) ?_) | rw [newP_eq])
   exact Wp.ret ⟨rfl, rfl⟩
end
theorem idxF {b i : Nat} (h : i < 32) : idxA 32 5 (.ptr b (0 + 0)) (i : Int) = some (.ptr b (5 * i)) := by
 have e : Nat.blt i 32 = true := by simpa using h
 show (match Nat.blt i 32 with | true => some (AV.ptr b (0 + 0 + i * 5)) | false => none) = _
 rw [e, show 0 + 0 + i * 5 = 5 * i by omega]
section
variable {lo : Nat → Prop} {n d db : Nat} {h : AHeap} {D : List AV} {fs : Nat → FileS} {vs : Nat → Nat → AV} {p : Int} {ops B f : Nat}
def moreF (x : FileS) (c : Chg) : FileS := ⟨x.sure, do1 x.seen c, x.loose ++ [c]⟩
theorem moreF_ok {x : FileS} {c : Chg} {B : Nat} (k : FileOk x B) (hl : legal x.seen c) : FileOk (moreF x c) (B + c.s.length + 1) := by
 obtain ⟨k1, k2, k3, k4⟩ := k
 refine ⟨?_, ?_, ?_, ?_⟩
 ·show do1 x.seen c = doL x.sure (x.loose ++ [c])
  rw [doL_snoc, ← k1]
 ·exact Legal_snoc _ _ _ k2 (by show legal (doL x.sure x.loose) c; rw [← k1]; exact hl)
 ·show x.sure.u.length + sumL (x.loose ++ [c]) ≤ _
  rw [sumL_snoc]
  omega
 ·show (x.loose ++ [c]).length ≤ _
  rw [List.length_append, List.length_singleton]
  omega
theorem change_ok (hn : 1000000 < n) (K : DiskAt lo h db D fs vs p ops B) (hf : f < 32) {c : Chg} (hL : legal (fs f).seen c) (hb : B + c.s.length < 9000000) :
  ∃ h' D' vs' S, world n (d + 2) 51 [.ptr db 0, .int .i64 (f : Int), .agg (chgC c)] h = some (.ret (.int .i64 0), h') ∧ DiskAt lo h' db D' (upd fs f (moreF (fs f) c)) vs' (stepP p) (ops + 1) (B + c.s.length + 2) ∧ Tch S h h' ∧ ∀ b ∈ S, lo b := by
 suffices hK : Wp (world n (d + 2) 51 [.ptr db 0, .int .i64 (f : Int), .agg (chgC c)] h) fun r h' => ∃ D' vs' S, r = .ret (.int .i64 0) ∧ DiskAt lo h' db D' (upd fs f (moreF (fs f) c)) vs' (stepP p) (ops + 1) (B + c.s.length + 2) ∧ Tch S h h' ∧ ∀ b ∈ S, lo b by
  obtain ⟨_, h', e, D', vs', S, rfl, k⟩ := hK
  exact ⟨h', D', vs', S, e, k⟩
 have C := K.cells f hf
 have Mf := K.mem f hf
 obtain ⟨o1, o2, o3, o4⟩ := K.ok f hf
 have hlen := K.len
 have hdb := K.hdb
 have hsl := doL_len (fs f).loose (fs f).sure
 rw [← o1] at hsl
 rw [w_disk_Disk_change]
 unfold disk_Disk_change
 refine Wp.mbox (Mem.nil [] h) rfl fun h2 M2 => ?_
 have t2 := M2.tch
 refine Wp.obind (nilC_ptr _ _) (Wp.obind (fldP_ptr _ _ _) (Wp.obind (idxF hf) (Wp.obind (nilC_ptr _ _) (Wp.obind (fldP_ptr _ _ _) (Wp.obind (RowH.ldAll M2.at0.1 rfl) ?_)))))
 refine Wp.mnews M2 (bldSlChg _ _ _ _) rfl (by rw [K.ex]; rfl) fun h3 M3 => ?_
 have t3 := M3.tch
 have hn2 := t2.1
 have hh2 := M2.at0.2.1
 have hh3 := M3.at0.2.1
 have hne1 : h.next ≠ h2.next := by omega
 have rd : RdL h3 (db :: blkV (vs f 1)) (.sl h2.next 0 1 3) [c] := by
  refine ⟨rfl, fun H t i hi => ?_⟩
  have hi0 : i = 0 := by
   have : i < 1 := hi
   omega
  subst hi0
  refine ⟨_, idx3 (by decide), ?_⟩
  refine RowH.ldAll (M3.at0.1.tch t hh3 fun hm => ?_) rfl
  rcases List.mem_cons.1 hm with hm | hm
  ·omega
  ·have := K.lt hf (k := 1) (by decide) _ hm
   omega
 obtain ⟨h4, v4, e4, K4⟩ := do_ok (n := n) (d := d) (T := TDisk) (o := 5 * f + 2) (x := (fs f).seen) hn (Nat.lt_of_lt_of_le hdb t3.1) (K.row.tch t3 hdb (by simp)) C.c2 C.c3 (Mf.seen.tch t3 (fun _ _ => by simp)) (K.nd hf (by decide)) (by rw [t3.2.1, K.ex]) rd (by show 1 < 1000000; decide) ⟨hL, trivial⟩ (by show _ + (c.s.length + 0) ≤ _; omega)
 refine Wp.callN e4 (Wp.obind (nilC_ptr _ _) (Wp.obind (fldP_ptr _ _ _) ?_))
 have hd4 : doL (fs f).seen [c] = do1 (fs f).seen c := rfl
 rw [hd4] at K4
 have g4 : ((D.set (5 * f + 2) (.bool (do1 (fs f).seen c).th)).set (5 * f + 2 + 1) v4)[5 * f + 4]? = some (vs f 2) := by
  rw [List.getElem?_set_ne (by omega), List.getElem?_set_ne (by omega)]
  exact C.c4
 have hn34 := K4.tch.1
 have hb1 : h.next ∉ db :: blkV (vs f 1) := fun hm => by
  rcases List.mem_cons.1 hm with hm | hm
  ·omega
  ·have := K.lt hf (k := 1) (by decide) _ hm
   omega
 have kb4 := M3.at1.1.tch K4.tch M3.at1.2.1 hb1
 refine Wp.obind (RowH.cell' K4.row g4) (Wp.obind (RowH.ldAll kb4 rfl) ?_)
 refine Wp.mnews (Mem.nil [] h4) (bldSlChg _ _ _ _) rfl (by rw [K4.ex]; rfl) fun h5 M5 => ?_
 have t5 := M5.tch
 have hdb3 : db < h3.next := Nat.lt_of_lt_of_le hdb t3.1
 have hdb4 : db < h4.next := Nat.lt_of_lt_of_le hdb3 hn34
 have kr5 := K4.row.tch t5 hdb4 (by simp)
 refine Wp.chk (and_t rfl (and_t (reLoad_c (by kernel_rfl) (RowH.cell' kr5 g4)) rfl)) ?_
 have dis12 : ∀ b ∈ blkV (vs f 2), b ∉ db :: blkV (vs f 1) := fun b hb hm => by
  rcases List.mem_cons.1 hm with rfl | hm
  ·exact K.nd hf (by decide) hb
  ·exact K.ne hf (by decide) hf (by decide) (fun h => absurd h.2 (by decide)) b hb hm
 have kl5 := ((Mf.loose.tch t3 (fun _ _ => by simp)).tch K4.tch dis12).tch t5 (fun _ _ => by simp)
 obtain ⟨h6, e6, kl6, t6⟩ := kl5.push M5.at0.1 (by omega) (by rw [t5.2.1, K4.ex])
 refine Wp.outK e6 (Wp.obind (nilC_ptr _ _) (Wp.obind (fldP_ptr _ _ _) ?_))
 have hn5 := t5.1
 have hn6 := t6.1
 have hdb5 : db < h5.next := Nat.lt_of_lt_of_le hdb4 hn5
 have kr6 := kr5.tch t6 hdb5 (K.nd hf (by decide))
 have l6 : ((D.set (5 * f + 2) (.bool (do1 (fs f).seen c).th)).set (5 * f + 2 + 1) v4).length = 162 := by rw [List.length_set, List.length_set]; exact hlen
 show Wp (Abs.obind (stRow h6 1 [AV.sl h5.next 0 ((fs f).loose.length + 1) 3] (.ptr db (5 * f + 4))) _) _
 refine Wp.st1 kr6 (show 5 * f + 4 < _ by omega) rfl fun h7 k7 t7 n7 => ?_
 -- the disk behind it
 have n35 : h3.next ≤ h5.next := Nat.le_trans hn34 hn5
 have hv4 : ∀ b ∈ blkV v4, b < h5.next := fun b hb => Nat.lt_of_lt_of_le (K4.buf.lt b hb) hn5
 have hv4s : ∀ b ∈ blkV v4, b ∈ blkV (vs f 1) ∨ h.next ≤ b := fun b hb => (K4.sub b hb).imp id fun h => Nat.le_trans t3.1 h
 have T : Tch (db :: (blkV (vs f 1) ++ blkV (vs f 2))) h h7 := by
  refine ((((t3.mono fun b hb => nomatch hb).trans (K4.tch.mono fun b hb => .inl ?_)).trans' t5 fun b hb => nomatch hb).trans' t6 fun b hb => .inl ?_).trans' t7 fun b hb => .inl ?_
  ·rcases List.mem_cons.1 hb with hb | hb
   ·rw [hb]; exact List.mem_cons_self
   ·exact List.mem_cons_of_mem _ (List.mem_append_left _ hb)
  ·exact List.mem_cons_of_mem _ (List.mem_append_right _ hb)
  ·rw [List.mem_singleton.1 hb]; exact List.mem_cons_self
 have hw : ∀ b ∈ blkV (.sl h5.next 0 ((fs f).loose.length + 1) 3), b = h5.next := fun b hb => List.mem_singleton.1 hb
 have KU := K.upd (B' := B + c.s.length + 1) (x := moreF (fs f) c) (w := fun k => if k = 0 then vs f 0 else if k = 1 then v4 else .sl h5.next 0 ((fs f).loose.length + 1) 3) hf T (fun b hb => ?_) k7 (by rw [List.length_set]; exact l6) ⟨?_, ?_, ?_, ?_, ?_⟩ (fun i hi => ?_) (fun k hk b hb => ?_) (fun k l hk hl hne b hb hb' => ?_) ⟨?_, ?_, ?_⟩ (moreF_ok (K.ok f hf) hL) (by omega)
 ·obtain ⟨h8, D8, e8, K8, t8⟩ := step_ok (n := n) (d := d) KU (by omega)
  refine Wp.callN e8 ?_
  refine Wp.ret ⟨D8, _, db :: (blkV (vs f 1) ++ blkV (vs f 2)), rfl, K8, T.trans' t8 fun b hb => .inl (by rw [List.mem_singleton.1 hb]; exact List.mem_cons_self), fun b hb => ?_⟩
  rcases List.mem_cons.1 hb with hb | hb
  ·rw [hb]
   exact K.hlo
  ·rcases List.mem_append.1 hb with hb | hb
   ·exact K.low f 1 hf (by decide) b hb
   ·exact K.low f 2 hf (by decide) b hb
 ·rcases List.mem_cons.1 hb with hb | hb
  ·exact .inl hb
  ·rcases List.mem_append.1 hb with hb | hb
   ·exact .inr ⟨1, by decide, hb⟩
   ·exact .inr ⟨2, by decide, hb⟩
 ·rw [List.getElem?_set_ne (by omega), List.getElem?_set_ne (by omega), List.getElem?_set_ne (by omega)]
  exact C.c0
 ·rw [List.getElem?_set_ne (by omega), List.getElem?_set_ne (by omega), List.getElem?_set_ne (by omega)]
  exact C.c1
 ·rw [List.getElem?_set_ne (by omega), List.getElem?_set_ne (by omega), List.getElem?_set_self (by omega)]
  rfl
 ·rw [List.getElem?_set_ne (by omega), List.getElem?_set_self (by rw [List.length_set]; omega)]
  rfl
 ·rw [List.getElem?_set_self (by omega)]
  rfl
 ·rw [List.getElem?_set_ne (by omega), List.getElem?_set_ne (by omega), List.getElem?_set_ne (by omega)]
 ·rcases k with _ | _ | k
  ·exact .inl hb
  ·exact hv4s b hb
  ·right
   have := hw b hb
   omega
 ·have k0 : ∀ k, k < 3 → ∀ b ∈ blkV ((fun k => if k = 0 then vs f 0 else if k = 1 then v4 else AV.sl h5.next 0 ((fs f).loose.length + 1) 3) k), (k = 0 ∧ b ∈ blkV (vs f 0)) ∨ (k = 1 ∧ b ∈ blkV v4) ∨ (k = 2 ∧ b = h5.next) := by
   intro k hk b hb
   rcases k with _ | _ | _ | k
   ·exact .inl ⟨rfl, hb⟩
   ·exact .inr (.inl ⟨rfl, hb⟩)
   ·exact .inr (.inr ⟨rfl, hw b hb⟩)
   ·omega
  have q01 : b ∈ blkV (vs f 0) → b ∈ blkV v4 → False := fun h0 h1 => by
   rcases hv4s b h1 with h1 | h1
   ·exact K.ne hf (by decide) hf (by decide) (fun h => absurd h.2 (by decide)) b h0 h1
   ·have := K.lt hf (k := 0) (by decide) b h0
    omega
  have q02 : b ∈ blkV (vs f 0) → b < h5.next := fun h0 => by
   have := K.lt hf (k := 0) (by decide) b h0
   have := t3.1
   omega
  rcases k0 k hk b hb with ⟨e1, b1⟩ | ⟨e1, b1⟩ | ⟨e1, b1⟩ <;> rcases k0 l hl b hb' with ⟨e2, b2⟩ | ⟨e2, b2⟩ | ⟨e2, b2⟩
  ·omega
  ·exact q01 b1 b2
  ·have := q02 b1
   omega
  ·exact q01 b2 b1
  ·omega
  ·have := hv4 b b1
   omega
  ·have := q02 b2
   omega
  ·have := hv4 b b2
   omega
  ·omega
 ·refine Mf.sure.tch T fun b hb hm => ?_
  rcases List.mem_cons.1 hm with rfl | hm
  ·exact K.nd hf (by decide) hb
  ·rcases List.mem_append.1 hm with hm | hm
   ·exact K.ne hf (by decide) hf (by decide) (fun h => absurd h.2 (by decide)) b hb hm
   ·exact K.ne hf (by decide) hf (by decide) (fun h => absurd h.2 (by decide)) b hb hm
 ·refine ((K4.buf.tch t5 (fun _ _ => by simp)).tch t6 fun b hb hm => ?_).tch t7 fun b hb hm => K4.ndb (List.mem_singleton.1 hm ▸ hb)
  rcases hv4s b hb with hb | hb
  ·exact K.ne hf (by decide) hf (by decide) (fun h => absurd h.2 (by decide)) b hb hm
  ·have := K.lt hf (k := 2) (by decide) b hm
   omega
 ·refine kl6.tch t7 fun b hb hm => ?_
  have h1 := hw b hb
  have h2 := List.mem_singleton.1 hm
  omega
end
structure DS where
 fs : Nat → FileS
 p : Int
 ops : Nat
def At (lo : Nat → Prop) (h : AHeap) (db : Nat) (s : DS) (B : Nat) : Prop := ∃ D vs, DiskAt lo h db D s.fs vs s.p s.ops B
def ownE (x : FileS) (c : Chg) : Int := if c.k = 0 then (if (1048576 : Int) - (x.seen.u.length : Int) < (c.s.length : Int) then 8 else 0) else if x.seen.th = false then 4 else if c.k = 1 ∧ (c.n < 0 ∨ (x.seen.u.length : Int) < c.n) then 5 else 0
def errP (s : DS) (z : Int) (c : Chg) : Int := if refP s.p z = 0 then ownE (s.fs z.toNat) c else refP s.p z
def actD (s : DS) (z : Int) (c : Chg) : DS := if errP s z c = 0 then ⟨upd s.fs z.toNat (moreF (s.fs z.toNat) c), stepP s.p, s.ops + 1⟩ else s
def synF (x : FileS) : FileS := ⟨x.seen, x.seen, []⟩
def synD (s : DS) (z : Int) : DS := if refP s.p z = 0 then ⟨upd s.fs z.toNat (synF (s.fs z.toNat)), stepP s.p, s.ops + 1⟩ else s
theorem ref_ok {p z : Int} (h : refP p z = 0) : p ≠ 0 ∧ ∃ f : Nat, z = (f : Int) ∧ f < 32 := by
 unfold refP at h
 split at h
 ·omega
 ·split at h
  ·exact ⟨by assumption, z.toNat, by omega, by omega⟩
  ·omega
section
variable {lo : Nat → Prop} {n d db : Nat} {h : AHeap} {D : List AV} {fs : Nat → FileS} {vs : Nat → Nat → AV} {p : Int} {ops B f : Nat} {s : DS}
theorem DiskAt.mono {B' : Nat} (K : DiskAt lo h db D fs vs p ops B) (hB : B ≤ B') : DiskAt lo h db D fs vs p ops B' :=
 ⟨K.row, K.hdb, K.hlo, K.len, K.cells, K.cp, K.co, K.mem, K.own, K.low, fun f hf => by obtain ⟨o1, o2, o3, o4⟩ := K.ok f hf; exact ⟨o1, o2, by omega, by omega⟩, K.ex, K.hp, by have := K.ho; omega, K.nw⟩
theorem At.mono {B' : Nat} (K : At lo h db s B) (hB : B ≤ B') : At lo h db s B' := by
 obtain ⟨D, vs, K⟩ := K
 exact ⟨D, vs, K.mono hB⟩
theorem At.ex (K : At lo h db s B) : h.ex = [89] := by
 obtain ⟨D, vs, K⟩ := K
 exact K.ex
theorem At.tch {S : List Nat} {h' : AHeap} (K : At lo h db s B) (t : Tch S h h') (hS : ∀ b ∈ S, ¬ lo b ∨ h.next ≤ b) : At lo h' db s B := by
 obtain ⟨D, vs, K⟩ := K
 exact ⟨D, vs, K.tch t hS⟩
theorem At.part {S : List Nat} {h' : AHeap} (K : At lo h db s B) (t : Tch S h h') (hS : ∀ b ∈ S, ¬ lo b ∨ h.next ≤ b) : At (fun b => lo b ∧ (b < h.next ∨ h'.next ≤ b)) h' db s B := by
 obtain ⟨D, vs, K⟩ := K
 have K' := K.tch t hS
 exact ⟨D, vs, K'.row, K'.hdb, ⟨K'.hlo, .inl K.hdb⟩, K'.len, K'.cells, K'.cp, K'.co, K'.mem, K'.own, fun f k hf hk b hb => ⟨K'.low f k hf hk b hb, .inl (K.lt hf hk b hb)⟩, K'.ok, K'.ex, K'.hp, K'.ho, fun b hb => ⟨K'.nw b hb, .inr hb⟩⟩
def Does (lo : Nat → Prop) (db : Nat) (h : AHeap) (x : R) (e : Int) (s' : DS) (B' : Nat) : Prop := ∃ h' S, x = some (.ret (.int .i64 e), h') ∧ At lo h' db s' B' ∧ Tch S h h' ∧ ∀ b ∈ S, lo b
theorem Does.of {x : R} {e : Int} {s' : DS} {B' : Nat} (k : Wp x fun r h' => r = .ret (.int .i64 e) ∧ ∃ S, At lo h' db s' B' ∧ Tch S h h' ∧ ∀ b ∈ S, lo b) : Does lo db h x e s' B' := by
 obtain ⟨_, h', e, rfl, S, k⟩ := k
 exact ⟨h', S, e, k⟩
theorem err_ok {f : Nat} {c : Chg} (h0 : refP s.p (f : Int) = 0) : errP s (f : Int) c = ownE (s.fs f) c := by
 unfold errP
 rw [if_pos h0, Int.toNat_natCast]
theorem act_ok {f : Nat} {c : Chg} (h0 : refP s.p (f : Int) = 0) (h1 : ownE (s.fs f) c = 0) : actD s (f : Int) c = ⟨upd s.fs f (moreF (s.fs f) c), stepP s.p, s.ops + 1⟩ := by
 unfold actD
 rw [err_ok h0, if_pos h1, Int.toNat_natCast]
theorem act_no {z : Int} {c : Chg} (h1 : errP s z c ≠ 0) : actD s z c = s := by
 unfold actD
 rw [if_neg h1]
theorem err_ref {z : Int} {c : Chg} (h0 : refP s.p z ≠ 0) : errP s z c = refP s.p z := by
 unfold errP
 rw [if_neg h0]
theorem append_ok {u : Bytes} {z : Int} (hn : 1000000 < n) (K : At lo h db s B) (hb : B + u.length < 9000000) : Does lo db h (world n (d + 3) 26 [.ptr db 0, .int .i64 z, strA u] h) (errP s z ⟨0, u, 0⟩) (actD s z ⟨0, u, 0⟩) (B + u.length + 2) := by
 apply Does.of
 have KA := K
 obtain ⟨D, vs, K⟩ := K
 rw [w_disk_Disk_Append]
 unfold disk_Disk_Append
 refine Wp.callN (refuses_w K z) (Wp.obind (avInt_int _ _) (Wp.lett ?_))
 by_cases h0 : refP s.p z = 0
 ·obtain ⟨hp, f, rfl, hf⟩ := ref_ok h0
  have C := K.cells f hf
  have Mf := K.mem f hf
  obtain ⟨o1, o2, o3, o4⟩ := K.ok f hf
  have hsl := doL_len (s.fs f).loose (s.fs f).sure
  rw [← o1] at hsl
  refine Wp.iff (bne_f h0) ?_
  refine Wp.obind (nilC_ptr _ _) (Wp.obind (fldP_ptr _ _ _) (Wp.obind (idxF hf) (Wp.obind (fldP_ptr _ _ _) (Wp.obind (fldP_ptr _ _ _) (Wp.obind (RowH.cell' K.row C.c3) (Wp.obind Mf.seen.len ?_))))))
  refine Wp.lettw (by omega) (by omega) ?_
  have hlu := lenS_nat u
  have hown : ownE (s.fs f) ⟨0, u, 0⟩ = if (1048576 : Int) - ((s.fs f).seen.u.length : Int) < (u.length : Int) then 8 else 0 := by
   unfold ownE
   rw [if_pos rfl]
  refine Wp.lett ?_
  by_cases h1 : (1048576 : Int) - ((s.fs f).seen.u.length : Int) < (u.length : Int)
  ·rw [if_pos h1] at hown
   have he := (err_ok h0).trans hown
   rw [act_no (by omega), he]
   refine Wp.ift (by rw [decide_eq_true_eq]; omega) ?_
   exact Wp.ret ⟨rfl, [], KA.mono (by omega), Tch.refl _ _, fun _ h => nomatch h⟩
  ·rw [if_neg h1] at hown
   rw [(err_ok h0).trans hown, act_ok h0 hown]
   refine Wp.iff (by rw [decide_eq_false_iff_not]; omega) ?_
   obtain ⟨h', D', vs', S, e, K', t, hS⟩ := change_ok (n := n) (d := d) hn K hf (c := ⟨0, u, 0⟩) (.inl rfl) hb
   refine Wp.callN e (Wp.obind (avInt_int _ _) ?_)
   exact Wp.ret ⟨rfl, S, ⟨D', vs', K'⟩, t, hS⟩
 ·rw [act_no (by rw [err_ref h0]; exact h0), err_ref h0]
  refine Wp.ift (bne_t h0) ?_
  exact Wp.ret ⟨rfl, [], KA.mono (by omega), Tch.refl _ _, fun _ h => nomatch h⟩
theorem remove_ok {z : Int} (hn : 1000000 < n) (K : At lo h db s B) (hb : B < 9000000) : Does lo db h (world n (d + 3) 63 [.ptr db 0, .int .i64 z] h) (errP s z ⟨2, [], 0⟩) (actD s z ⟨2, [], 0⟩) (B + 2) := by
 apply Does.of
 have KA := K
 obtain ⟨D, vs, K⟩ := K
 rw [w_disk_Disk_Remove]
 unfold disk_Disk_Remove
 refine Wp.callN (refuses_w K z) (Wp.obind (avInt_int _ _) (Wp.lett ?_))
 by_cases h0 : refP s.p z = 0
 ·obtain ⟨hp, f, rfl, hf⟩ := ref_ok h0
  have C := K.cells f hf
  have hown : ownE (s.fs f) ⟨2, [], 0⟩ = if (s.fs f).seen.th = false then 4 else 0 := by
   unfold ownE
   rw [if_neg (show ¬ (2 : Nat) = 0 by omega)]
   split
   ·rfl
   ·rw [if_neg (fun h => absurd h.1 (by decide))]
  refine Wp.iff (bne_f h0) ?_
  refine Wp.obind (nilC_ptr _ _) (Wp.obind (fldP_ptr _ _ _) (Wp.obind (idxF hf) (Wp.obind (fldP_ptr _ _ _) (Wp.obind (fldP_ptr _ _ _) (Wp.obind (RowH.cell' K.row C.c2) (Wp.obind (avBool_bool _) (Wp.lett ?_)))))))
  cases hth : (s.fs f).seen.th with
  | false =>
   rw [hth, if_pos rfl] at hown
   have he := (err_ok h0).trans hown
   rw [act_no (by omega), he]
   refine Wp.ift rfl ?_
   exact Wp.ret ⟨rfl, [], KA.mono (by omega), Tch.refl _ _, fun _ h => nomatch h⟩
  | true =>
   rw [hth, if_neg (by decide)] at hown
   rw [(err_ok h0).trans hown, act_ok h0 hown]
   refine Wp.iff rfl ?_
   obtain ⟨h', D', vs', S, e, K', t, hS⟩ := change_ok (n := n) (d := d) hn K hf (c := ⟨2, [], 0⟩) (.inr (.inr rfl)) (by show B + 0 < _; omega)
   refine Wp.callN e (Wp.obind (avInt_int _ _) ?_)
   exact Wp.ret ⟨rfl, S, ⟨D', vs', K'⟩, t, hS⟩
 ·rw [act_no (by rw [err_ref h0]; exact h0), err_ref h0]
  refine Wp.ift (bne_t h0) ?_
  exact Wp.ret ⟨rfl, [], KA.mono (by omega), Tch.refl _ _, fun _ h => nomatch h⟩
end
theorem flat_rep {r t : List AV} {k : Nat} (hr : r.length = k) : ∀ (m f j : Nat), f < m → j < k → ((List.replicate m r).flatten ++ t)[k * f + j]? = r[j]?
 | 0, _, _, h, _ => absurd h (Nat.not_lt_zero _)
 | m + 1, 0, j, _, hj => by
  rw [List.replicate_succ, List.flatten_cons, List.append_assoc, Nat.mul_zero, Nat.zero_add, List.getElem?_append_left (by omega)]
 | m + 1, f + 1, j, h, hj => by
  rw [List.replicate_succ, List.flatten_cons, List.append_assoc, List.getElem?_append_right (by rw [Nat.mul_succ]; omega), hr, show k * (f + 1) + j - k = k * f + j by rw [Nat.mul_succ]; omega]
  exact flat_rep hr m f j (by omega) hj
section
variable {lo : Nat → Prop} {n d db : Nat} {h : AHeap} {D : List AV} {fs : Nat → FileS} {vs : Nat → Nat → AV} {p : Int} {ops B f : Nat} {s : DS}
theorem DiskAt.setP {p' : Int} {h' : AHeap} (K : DiskAt lo h db D fs vs p ops B) (hp : -1 ≤ p' ∧ p' < 9223372036854775808) (kr : RowH h' db TDisk (D.set 160 (.int .i64 p'))) (t : Tch [db] h h') : DiskAt lo h' db (D.set 160 (.int .i64 p')) fs vs p' ops B := by
 have hl := K.len
 refine ⟨kr, Nat.lt_of_lt_of_le K.hdb t.1, K.hlo, by rw [List.length_set]; exact hl, fun f hf => ?_, by rw [List.getElem?_set_self (by omega)], by rw [List.getElem?_set_ne (by omega)]; exact K.co, fun f hf => (K.mem f hf).tch t fun k hk b hb hm => K.nd hf hk (List.mem_singleton.1 hm ▸ hb), K.own, K.low, K.ok, by rw [t.2.1, K.ex], hp, K.ho, fun b hb => K.nw b (Nat.le_trans t.1 hb)⟩
 have hk := K.cells f hf
 have key : ∀ j, j < 5 → (D.set 160 (.int .i64 p'))[5 * f + j]? = D[5 * f + j]? := fun j hj => by rw [List.getElem?_set_ne (by omega)]
 exact ⟨(key 0 (by decide)).trans hk.c0, (key 1 (by decide)).trans hk.c1, (key 2 (by decide)).trans hk.c2, (key 3 (by decide)).trans hk.c3, (key 4 (by decide)).trans hk.c4⟩
theorem power_ok {m : Int} (hm : m < 9223372036854775808) (K : At lo h db s B) : Does lo db h (world n (d + 1) 23 [.ptr db 0, .int .i64 m] h) 0 ⟨s.fs, if -1 > m then -1 else m, s.ops⟩ B := by
 apply Does.of
 obtain ⟨D, vs, K⟩ := K
 rw [w_disk_Disk_Power]
 unfold disk_Disk_Power
 refine Wp.outK (eqDisk db 0 h) (Wp.obind (avBool_bool _) (Wp.iff rfl (Wp.lett ?_)))
 refine Wp.obind (nilC_ptr _ _) (Wp.obind (fldP_ptr _ _ _) ?_)
 have hl := K.len
 refine Wp.st1 K.row (show 0 + 160 < D.length by omega) rfl fun h2 k2 t2 n2 => ?_
 refine Wp.ret ⟨rfl, [db], ⟨_, vs, K.setP (by show -1 ≤ (if -1 > m then (-1 : Int) else m) ∧ (if -1 > m then (-1 : Int) else m) < 9223372036854775808; split <;> omega) ?_ t2⟩, t2, fun b hb => by rw [List.mem_singleton.1 hb]; exact K.hlo⟩
 rw [Nat.zero_add] at k2
 exact k2
abbrev emptyF : FileS := ⟨⟨false, []⟩, ⟨false, []⟩, []⟩
abbrev newS : DS := ⟨fun _ => emptyF, -1, 0⟩
theorem new_ok (hx : h.ex = [89]) : ∃ h', world n (d + 1) 13 [] h = some (.ret (.ptr h.next 0), h') ∧ At (fun b => h.next ≤ b) h' h.next newS 0 ∧ Tch [] h h' := by
 suffices hK : Wp (disk_New (world n d) n h) fun r h' => r = .ret (.ptr h.next 0) ∧ At (fun b => h.next ≤ b) h' h.next newS 0 ∧ Tch [] h h' by
  obtain ⟨r, h', e, rfl, k⟩ := hK
  refine ⟨h', ?_, k⟩
  rw [w_disk_New, e]
  refine gcR_some ?_
  show Nat.blt h.next h.next = false
  cases e : Nat.blt h.next h.next with
  | false => rfl
  | true =>
   have := blt_lt' e
   omega
 unfold disk_New
 refine Wp.outK (box_agg (by kernel_rfl)) ?_
 refine Wp.ret ⟨rfl, ⟨(List.replicate 32 [.bool false, .nsl, .bool false, .nsl, .nsl]).flatten ++ [.int .i64 (-1), .int .i64 0], fun _ _ => .nsl, RowH.new _ _ _, Nat.lt_succ_self _, Nat.le_refl _, by kernel_rfl, fun f hf => ?_, by kernel_rfl, by kernel_rfl, fun f hf => ⟨.inl ⟨rfl, rfl⟩, .inl ⟨rfl, rfl⟩, .inl ⟨rfl, rfl⟩⟩, ⟨fun _ => 0, rfl, fun _ _ _ _ _ hb => (nomatch hb)⟩, (fun _ _ _ _ _ hb => (nomatch hb)), fun f hf => ⟨rfl, trivial, Nat.le_refl _, Nat.le_refl _⟩, hx, by decide, Nat.le_refl _, fun b hb => Nat.le_trans (Nat.le_succ _) hb⟩, Tch.newH _ _ _ _⟩
 exact ⟨flat_rep rfl 32 f 0 hf (by decide), flat_rep rfl 32 f 1 hf (by decide), flat_rep rfl 32 f 2 hf (by decide), flat_rep rfl 32 f 3 hf (by decide), flat_rep rfl 32 f 4 hf (by decide)⟩
theorem synF_ok {x : FileS} (k : FileOk x B) : FileOk (synF x) B := by
 obtain ⟨k1, k2, k3, k4⟩ := k
 have := doL_len x.loose x.sure
 rw [← k1] at this
 exact ⟨rfl, trivial, by show x.seen.u.length + 0 ≤ B; omega, Nat.zero_le _⟩
theorem sync_ok {z : Int} (hn : 1000000 < n) (K : At lo h db s B) (hb : B < 900000) : Does lo db h (world n (d + 3) 64 [.ptr db 0, .int .i64 z] h) (refP s.p z) (synD s z) (B + 1) := by
 apply Does.of
 have KA := K
 obtain ⟨D, vs, K⟩ := K
 rw [w_disk_Disk_Sync]
 unfold disk_Disk_Sync
 refine Wp.callN (refuses_w K z) (Wp.obind (avInt_int _ _) (Wp.lett ?_))
 by_cases h0 : refP s.p z = 0
 ·obtain ⟨hp, f, rfl, hf⟩ := ref_ok h0
  have C := K.cells f hf
  have Mf := K.mem f hf
  obtain ⟨o1, o2, o3, o4⟩ := K.ok f hf
  have hlen := K.len
  have hdb := K.hdb
  have es : synD s (f : Int) = ⟨upd s.fs f (synF (s.fs f)), stepP s.p, s.ops + 1⟩ := by
   unfold synD
   rw [if_pos h0, Int.toNat_natCast]
  rw [es, h0]
  refine Wp.iff rfl ?_
  refine Wp.obind (nilC_ptr _ _) (Wp.obind (fldP_ptr _ _ _) (Wp.obind (idxF hf) (Wp.obind (nilC_ptr _ _) (Wp.obind (fldP_ptr _ _ _) (Wp.obind (nilC_ptr _ _) (Wp.obind (fldP_ptr _ _ _) (Wp.obind (RowH.cell' K.row C.c4) ?_)))))))
  have dis : ∀ b ∈ blkV (vs f 2), b ∉ db :: blkV (vs f 0) := fun b hb hm => by
   rcases List.mem_cons.1 hm with rfl | hm
   ·exact K.nd hf (by decide) hb
   ·exact K.ne hf (by decide) hf (by decide) (fun h => absurd h.2 (by decide)) b hb hm
  have dis1 : ∀ b ∈ blkV (vs f 1), b ∉ db :: blkV (vs f 0) := fun b hb hm => by
   rcases List.mem_cons.1 hm with rfl | hm
   ·exact K.nd hf (by decide) hb
   ·exact K.ne hf (by decide) hf (by decide) (fun h => absurd h.2 (by decide)) b hb hm
  obtain ⟨h4, v4, e4, K4⟩ := do_ok (n := n) (d := d + 1) (T := TDisk) (o := 5 * f + 0) (x := (s.fs f).sure) hn hdb K.row C.c0 C.c1 Mf.sure (K.nd hf (by decide)) K.ex (Mf.loose.rd dis) (by omega) o2 (by omega)
  refine Wp.callN e4 (Wp.obind (nilC_ptr _ _) (Wp.obind (fldP_ptr _ _ _) ?_))
  rw [← o1] at K4
  have hdb4 : db < h4.next := Nat.lt_of_lt_of_le hdb K4.tch.1
  show Wp (Abs.obind (stRow h4 1 [AV.nsl] (.ptr db (5 * f + 4))) _) _
  refine Wp.st1 K4.row (show 5 * f + 4 < _ by rw [List.length_set, List.length_set]; omega) rfl fun h7 k7 t7 n7 => ?_
  have T : Tch (db :: blkV (vs f 0)) h h7 := K4.tch.trans' t7 fun b hb => .inl (by rw [List.mem_singleton.1 hb]; exact List.mem_cons_self)
  have KU := K.upd (B' := B) (x := synF (s.fs f)) (w := fun k => if k = 0 then v4 else if k = 1 then vs f 1 else .nsl) hf T (fun b hb => ?_) k7 (by rw [List.length_set, List.length_set, List.length_set]; exact hlen) ⟨?_, ?_, ?_, ?_, ?_⟩ (fun i hi => ?_) (fun k hk b hb => ?_) (fun k l hk hl hne b hb hb' => ?_) ⟨?_, ?_, ?_⟩ (synF_ok (K.ok f hf)) (Nat.le_refl _)
  ·obtain ⟨h8, D8, e8, K8, t8⟩ := step_ok (n := n) (d := d + 1) KU (by omega)
   refine Wp.callN e8 ?_
   refine Wp.ret ⟨rfl, db :: blkV (vs f 0), ⟨D8, _, K8⟩, T.trans' t8 fun b hb => .inl (by rw [List.mem_singleton.1 hb]; exact List.mem_cons_self), fun b hb => ?_⟩
   rcases List.mem_cons.1 hb with hb | hb
   ·rw [hb]
    exact K.hlo
   ·exact K.low f 0 hf (by decide) b hb
  ·rcases List.mem_cons.1 hb with hb | hb
   ·exact .inl hb
   ·exact .inr ⟨0, by decide, hb⟩
  ·show (((D.set (5 * f + 0) _).set (5 * f + 0 + 1) v4).set (5 * f + 4) AV.nsl)[5 * f + 0]? = _
   rw [List.getElem?_set_ne (by omega), List.getElem?_set_ne (by omega), List.getElem?_set_self (by omega)]
   rfl
  ·rw [List.getElem?_set_ne (by omega), List.getElem?_set_self (by rw [List.length_set]; omega)]
   rfl
  ·rw [List.getElem?_set_ne (by omega), List.getElem?_set_ne (by omega), List.getElem?_set_ne (by omega)]
   exact C.c2
  ·rw [List.getElem?_set_ne (by omega), List.getElem?_set_ne (by omega), List.getElem?_set_ne (by omega)]
   exact C.c3
  ·rw [List.getElem?_set_self (by rw [List.length_set, List.length_set]; omega)]
   rfl
  ·rw [List.getElem?_set_ne (by omega), List.getElem?_set_ne (by omega), List.getElem?_set_ne (by omega)]
  ·rcases k with _ | _ | k
   ·exact K4.sub b hb
   ·exact .inl hb
   ·exact nomatch hb
  ·have q01 : b ∈ blkV v4 → b ∈ blkV (vs f 1) → False := fun h0 h1 => by
    rcases K4.sub b h0 with h0 | h0
    ·exact dis1 b h1 (List.mem_cons_of_mem _ h0)
    ·have := K.lt hf (k := 1) (by decide) b h1
     omega
   rcases k with _ | _ | k <;> rcases l with _ | _ | l
   ·omega
   ·exact q01 hb hb'
   ·exact nomatch hb'
   ·exact q01 hb' hb
   ·omega
   ·exact nomatch hb'
   ·exact nomatch hb
   ·exact nomatch hb
   ·exact nomatch hb
  ·exact K4.buf.tch t7 fun b hb hm => K4.ndb (List.mem_singleton.1 hm ▸ hb)
  ·exact Mf.seen.tch T dis1
  ·exact .inl ⟨rfl, rfl⟩
 ·have es : synD s z = s := by
   unfold synD
   rw [if_neg h0]
  rw [es]
  refine Wp.ift (bne_t h0) ?_
  exact Wp.ret ⟨rfl, [], KA.mono (by omega), Tch.refl _ _, fun _ h => nomatch h⟩
end
structure StpR where
 k : Int
 f : Int
 n : Int
 s : Bytes
 v : AV
def StpOk (N : Nat) (h : AHeap) (x : StpR) : Prop := I64 x.k ∧ I64 x.f ∧ I64 x.n ∧ x.s.length ≤ reachBytes ∧ ∃ zs : List Int, Slc N h 1 x.v (zs.map fun z => [.int .i64 z]) ∧ (∀ z ∈ zs, I64 z) ∧ zs.length * 8 ≤ reachBytes
theorem StpOk.one {N : Nat} {h : AHeap} {x : StpR} (k : StpOk N h x) : x.v.one = true := by
 obtain ⟨_, _, _, _, zs, hs, _⟩ := k
 rcases hs.2 with ⟨_, e | e⟩ | ⟨b, _, _, e, _⟩ <;> rw [e] <;> rfl
section
variable {n d N : Nat} {h : AHeap} {a : AV} {xs : List StpR}
end
section
variable {h h' : AHeap} {v : AV} {u : Bytes} {l : List Chg}
theorem BufAt.conv (k : BufAt h v u) : opConv Try.prog h TBy 9 (some v) = some (.val (strA u), h) := by
 rcases k with ⟨rfl, rfl⟩ | ⟨c, rest, rfl, h2, h3⟩
 ·kernel_rfl
 ·refine conv_row (by kernel_rfl) (by kernel_rfl) ?_
  have hcl := bytesC_length u
  have := h2.part (o := 0) (n := (bytesC u).length) (by rw [List.length_append]; omega)
  rw [List.drop_zero, List.take_left' rfl, hcl] at this
  exact this
theorem eqBy_sl (b m : Nat) (h : AHeap) : opBin Try.prog h .eql TBy true (some (.sl b 0 m 1)) (some AV.nsl) = some (.val (.bool false), h) := by kernel_rfl
theorem eqBy_nil (h : AHeap) : opBin Try.prog h .eql TBy true (some .nsl) (some AV.nsl) = some (.val (.bool true), h) := by kernel_rfl
theorem bldBy0 (h : AHeap) : bldSl Try.prog h TBy 0 [] = outNewS h 5 [] 0 1 := by kernel_rfl
theorem Wp.mnews0 {h : AHeap} {e sz : Nat} {k : AV → AHeap → R} {Q : ARes → AHeap → Prop} {o : OutT} (e1 : o = outNewS h e [] 0 sz) (hex : memB e h.ex = false) (hk : Wp (k (.sl h.next 0 0 sz) (newH h e [])) Q) : Wp (Abs.outK o k) Q := by
 refine Wp.outK (v := .sl h.next 0 0 sz) (h1 := newH h e []) ?_ hk
 rw [e1]
 unfold outNewS
 rw [if_pos ⟨rfl, hex⟩]
 rfl
theorem clone_ok {n d : Nat} (k : BufAt h v u) (hx : h.ex = [89]) (hm : u.length ≤ 1000000000) : ∃ h' v', world n (d + 1) 86 [v] h = some (.ret v', h') ∧ BufAt h' v' u ∧ Tch [] h h' ∧ ∀ b ∈ blkV v', h.next ≤ b := by
 suffices hK : Wp (world n (d + 1) 86 [v] h) fun r h' => ∃ v', r = .ret v' ∧ BufAt h' v' u ∧ Tch [] h h' ∧ ∀ b ∈ blkV v', h.next ≤ b by
  obtain ⟨_, h', e, v', rfl, k⟩ := hK
  exact ⟨h', v', e, k⟩
 rw [w_slices_Clone___byte_byte_]
 unfold slices_Clone___byte_byte_
 have he : Abs.elemOf Try.prog TBy = some 5 := by kernel_rfl
 have hu : notInt Try.prog TBy = true := by kernel_rfl
 have hsz : Try.prog.cellsOf 5 = 1 := by kernel_rfl
 rcases k with ⟨rfl, rfl⟩ | ⟨c, rest, rfl, h2, h3⟩
 ·refine Wp.outK (eqBy_nil h) (Wp.obind (avBool_bool _) (Wp.ift rfl ?_))
  exact Wp.ret ⟨_, rfl, .inl ⟨rfl, rfl⟩, Tch.refl _ _, fun _ h => nomatch h⟩
 ·refine Wp.outK (eqBy_sl c u.length h) (Wp.obind (avBool_bool _) (Wp.iff rfl ?_))
  refine Wp.mnews0 (bldBy0 h) (by rw [hx]; rfl) ?_
  have hex : memB 5 (newH h 5 []).ex = false := by rw [ex_newH, hx]; rfl
  have kn := RowH.new h 5 []
  have hcl := bytesC_length u
  have k2 : RowH (newH h 5 []) c 5 (bytesC u ++ rest) := h2.tch (Tch.newH [] h _ _) h3 (fun h => nomatch h)
  have hfit := bytesFit_of (P := Try.prog) (e := 5) (B := 1) (k := 0 + u.length) fitBy (by omega) (by omega)
  have hpart : rowGet (newH h 5 []) c 0 (bytesC u).length = some (bytesC u) := by
   have := k2.part (o := 0) (n := (bytesC u).length) (by rw [List.length_append]; omega)
   rw [List.drop_zero, List.take_left' rfl] at this
   exact this
  have hfirst : ∀ m, m = u.length → firstA (newH h 5 []) 1 m (.sl c 0 u.length 1) = some (bytesC u) := by
   intro m hm
   rw [firstA_of_row (by omega), hm, Nat.mul_one, ← hcl]
   exact hpart
  by_cases h0 : u = []
  ·subst h0
   refine Wp.outK (append_zero (b := h.next) (o := 0) (m := 0) (n := 0) he hu hsz rfl rfl (hfirst 0 rfl) hfit hex) ?_
   exact Wp.ret ⟨_, rfl, .inr ⟨h.next, [], rfl, kn, Nat.lt_succ_self _⟩, Tch.newH _ _ _ _, fun b hb => by rw [List.mem_singleton.1 hb]; exact Nat.le_refl _⟩
  ·obtain ⟨m, hm2⟩ : ∃ m, u.length = m + 1 := by
    cases u with
    | nil => exact absurd rfl h0
    | cons a l => exact ⟨l.length, rfl⟩
   have hlen : lenA (.sl c 0 u.length 1) = some (m + 1) := by rw [hm2]; rfl
   have a1 := append_more (P := Try.prog) (h := newH h 5 []) (t := TBy) (u := TBy) (b := h.next) (o := 0) (m := 0) (n := m) (x := .sl c 0 u.length 1) (cs := []) he hu hsz hlen (hfirst _ hm2.symm) (by rw [← hm2]; exact hfit) (bytesC_one u) hex (by
    have := kn.part (o := 0) (n := 0) (Nat.le_refl _)
    exact this) kn.type
   refine Wp.outK a1 ?_
   refine Wp.ret ⟨_, rfl, .inr ⟨h.next + 1, [], by rw [hm2, Nat.zero_add]; rfl, ?_, Nat.lt_succ_self _⟩, ((Tch.newH [] h _ _).trans' (Tch.put (S := [h.next]) (.inl (List.mem_singleton.2 rfl)) .dead) fun b hb => .inr (by rw [List.mem_singleton.1 hb]; exact Nat.le_refl _)).trans (Tch.newH _ _ _ _), fun b hb => ?_⟩
   ·rw [List.append_nil]
    exact RowH.new ((newH h 5 []).put h.next .dead) _ _
   ·have hb2 : b = h.next + 1 := List.mem_singleton.1 hb
    omega
theorem copy_ok {n d b T o : Nat} {D : List AV} {th : Bool} (kr : RowH h b T D) (hb : b < h.next) (h0 : D[o]? = some (.bool th)) (h1 : D[o + 1]? = some v) (k : BufAt h v u) (hx : h.ex = [89]) (hm : u.length ≤ 1000000000) : ∃ h' v', world n (d + 2) 73 [.ptr b o] h = some (.ret (.agg [.bool th, v']), h') ∧ BufAt h' v' u ∧ Tch [] h h' ∧ ∀ b ∈ blkV v', h.next ≤ b := by
 suffices hK : Wp (world n (d + 2) 73 [.ptr b o] h) fun r h' => ∃ v', r = .ret (.agg [.bool th, v']) ∧ BufAt h' v' u ∧ Tch [] h h' ∧ ∀ b ∈ blkV v', h.next ≤ b by
  obtain ⟨_, h', e, v', rfl, k⟩ := hK
  exact ⟨h', v', e, k⟩
 rw [w_disk_content_copy]
 unfold disk_content_copy
 refine Wp.mnew (Mem.nil [] h) fun h2 M2 => ?_
 have t2 := M2.tch
 have hn2 := t2.1
 have kr2 := kr.tch t2 hb (fun h => nomatch h)
 have k2 := k.tch t2 (fun _ _ h => nomatch h)
 refine Wp.obind (nilC_ptr _ _) (Wp.obind (fldP_ptr _ _ _) (Wp.obind (RowH.cell' kr2 h0) (Wp.obind (avBool_bool _) (Wp.obind (nilC_ptr _ _) (Wp.obind (fldP_ptr _ _ _) (Wp.obind (RowH.cell' kr2 h1) ?_))))))
 obtain ⟨h3, v', e3, k3, t3, s3⟩ := clone_ok (n := n) (d := d) k2 (by rw [t2.2.1, hx]) hm
 have hn3 := t3.1
 refine Wp.callN e3 ?_
 have kr3 := kr2.tch t3 (Nat.lt_of_lt_of_le hb hn2) (fun h => nomatch h)
 refine Wp.chk (and_t rfl (and_t (reLoad_c (by kernel_rfl) (RowH.cell' kr3 h0)) rfl)) ?_
 have hbld : bldS Try.prog 100 [(0, .bool th), (1, v')] = some [.bool th, v'] := by
  rcases k3 with ⟨rfl, rfl⟩ | ⟨c, rest, rfl, _⟩ <;> kernel_rfl
 refine Wp.obind hbld ?_
 have hh2 := M2.at0.2.1
 have kb3 := M2.at0.1.tch t3 hh2 (fun h => nomatch h)
 rw [newP_eq]
 refine Wp.stAll kb3 rfl rfl (by rw [show [AV.bool th, v'].all AV.one = (true && (v'.one && true)) from rfl, k3.one.1]; rfl) fun h4 k4 t4 n4 => ?_
 refine Wp.obind (RowH.ldAll k4 rfl) ?_
 refine Wp.ret ⟨v', rfl, k3.tch t4 (fun b hb hm => ?_), (t2.trans t3).trans' t4 (fun b hb => .inr (by rw [List.mem_singleton.1 hb]; exact Nat.le_refl _)), fun b hb => Nat.le_trans hn2 (s3 b hb)⟩
 have h1 := s3 b hb
 have h2 := List.mem_singleton.1 hm
 omega
end
section
variable {lo : Nat → Prop} {n d db : Nat} {h : AHeap} {B : Nat} {s : DS}
def readE (s : DS) (z : Int) : Int := if refP s.p z = 0 then (if (s.fs z.toNat).seen.th = true then 0 else 4) else refP s.p z
def readS (s : DS) (z : Int) : Bytes := if refP s.p z = 0 then (if (s.fs z.toNat).seen.th = true then (s.fs z.toNat).seen.u else []) else []
theorem read_a {z : Int} (K : At lo h db s B) : world n (d + 3) 60 [.ptr db 0, .int .i64 z] h = some (.ret (.tup [strA (readS s z), .int .i64 (readE s z)]), h) := by
 apply Wp.eq
 obtain ⟨D, vs, K⟩ := K
 rw [w_disk_Disk_Read]
 unfold disk_Disk_Read
 refine Wp.callN (refuses_w K z) (Wp.obind (avInt_int _ _) (Wp.lett ?_))
 unfold readE readS
 by_cases h0 : refP s.p z = 0
 ·obtain ⟨hp, f, rfl, hf⟩ := ref_ok h0
  have C := K.cells f hf
  have Mf := K.mem f hf
  refine Wp.iff (bne_f h0) ?_
  rw [if_pos h0, if_pos h0, Int.toNat_natCast]
  refine Wp.obind (nilC_ptr _ _) (Wp.obind (fldP_ptr _ _ _) (Wp.obind (idxF hf) (Wp.obind (fldP_ptr _ _ _) (Wp.obind (nilC_ptr _ _) (Wp.obind (fldP_ptr _ _ _) (Wp.obind (RowH.cell' K.row C.c2) (Wp.obind (avBool_bool _) (Wp.lett ?_))))))))
  cases hth : (s.fs f).seen.th with
  | false =>
   refine Wp.ift rfl ?_
   exact Wp.ret ⟨rfl, rfl⟩
  | true =>
   refine Wp.iff rfl (Wp.obind (nilC_ptr _ _) (Wp.obind (fldP_ptr _ _ _) ?_))
   have go : ∀ k : AV → R, (Wp (k (vs f 1)) fun r' h' => r' = ARes.ret (AV.tup [strA (if true = true then (s.fs f).seen.u else []), AV.int IntKind.i64 (if true = true then 0 else 4)]) ∧ h' = h) → Wp (Abs.obind (ldCell h (.ptr db (5 * f + 2 + 1))) k) fun r' h' => r' = ARes.ret (AV.tup [strA (if true = true then (s.fs f).seen.u else []), AV.int IntKind.i64 (if true = true then 0 else 4)]) ∧ h' = h := fun k hk => Wp.obind (RowH.cell' K.row C.c3) hk
   refine go _ (Wp.outK Mf.seen.conv (Wp.obind (avStr_str _) ?_))
   exact Wp.ret ⟨rfl, rfl⟩
 ·refine Wp.ift (bne_t h0) ?_
  rw [if_neg h0, if_neg h0]
  exact Wp.ret ⟨rfl, rfl⟩
def isF (z : Int) : Prop := 0 ≤ z ∧ z < 32
instance (z : Int) : Decidable (isF z) := inferInstanceAs (Decidable (0 ≤ z ∧ z < 32))
end
theorem Legal_take : ∀ (l : List Chg) (x : Cont) (k : Nat), Legal x l → Legal x (l.take k)
 | _, _, 0, _ => trivial
 | [], _, _ + 1, _ => trivial
 | _ :: l, _, k + 1, h => ⟨h.1, Legal_take l _ k h.2⟩
theorem sumL_take : ∀ (l : List Chg) (k : Nat), sumL (l.take k) ≤ sumL l
 | _, 0 => Nat.zero_le _
 | [], _ + 1 => Nat.le_refl _
 | c :: l, k + 1 => by
  have := sumL_take l k
  show c.s.length + sumL (l.take k) ≤ c.s.length + sumL l
  omega
theorem sumL_at : ∀ (l : List Chg) (k : Nat) (hk : k < l.length), sumL (l.take k) + l[k].s.length ≤ sumL l
 | [], _, h => absurd h (Nat.not_lt_zero _)
 | c :: l, 0, _ => by
  show 0 + c.s.length ≤ c.s.length + sumL l
  omega
 | c :: l, k + 1, h => by
  have := sumL_at l k (Nat.lt_of_succ_lt_succ h)
  show c.s.length + sumL (l.take k) + (l[k]'(Nat.lt_of_succ_lt_succ h)).s.length ≤ c.s.length + sumL l
  omega
def keptN (x : FileS) (kept : Int) : Nat := min kept.toNat x.loose.length
def tornC (c : Chg) (torn : Int) : Chg := ⟨0, c.s.take (min torn ((c.s.length : Int) - 1)).toNat, c.n⟩
def tears (c : Chg) (torn : Int) : Prop := 0 < torn ∧ c.k = 0 ∧ c.s ≠ []
instance (c : Chg) (torn : Int) : Decidable (tears c torn) := inferInstanceAs (Decidable (0 < torn ∧ c.k = 0 ∧ c.s ≠ []))
def crashC (x : FileS) (kept torn : Int) : Cont :=
 match x.loose[keptN x kept]? with
 | some c => if tears c torn then do1 (doL x.sure (x.loose.take (keptN x kept))) (tornC c torn) else doL x.sure (x.loose.take (keptN x kept))
 | none => doL x.sure (x.loose.take (keptN x kept))
def crashF (x : FileS) (kept torn : Int) : FileS := ⟨crashC x kept torn, crashC x kept torn, []⟩
theorem crashC_len {x : FileS} {B : Nat} (kept torn : Int) (k : FileOk x B) : (crashC x kept torn).u.length ≤ B := by
 obtain ⟨k1, k2, k3, k4⟩ := k
 have h1 := doL_len (x.loose.take (keptN x kept)) x.sure
 have h2 := sumL_take x.loose (keptN x kept)
 unfold crashC
 split
 ·rename_i c hc
  obtain ⟨hk, rfl⟩ := List.getElem?_eq_some_iff.1 hc
  have h3 := sumL_at x.loose _ hk
  split
  ·have h4 := do1_len (doL x.sure (x.loose.take (keptN x kept))) (tornC x.loose[keptN x kept] torn)
   have h5 : (tornC x.loose[keptN x kept] torn).s.length ≤ x.loose[keptN x kept].s.length := by
    show (x.loose[keptN x kept].s.take _).length ≤ _
    rw [List.length_take]
    exact Nat.min_le_right _ _
   omega
  ·omega
 ·omega
theorem crashF_ok {x : FileS} {B : Nat} (kept torn : Int) (k : FileOk x B) : FileOk (crashF x kept torn) B :=
 ⟨rfl, trivial, crashC_len kept torn k, Nat.zero_le _⟩
section
variable {h H H' : AHeap} {db T o : Nat} {D : List AV} {v v1 v2 : AV} {x y : Cont} {l : List Chg}
theorem DoAt.trans (K : DoAt h H db T o D v v1 x) (K2 : DoAt H H' db T o ((D.set o (.bool x.th)).set (o + 1) v1) v1 v2 y) : DoAt h H' db T o D v v2 y := by
 have hn := K.tch.1
 refine ⟨?_, K2.buf, K2.ndb, fun b hb => ?_, K.tch.trans' K2.tch fun b hb => ?_, K2.ex⟩
 ·have := K2.row
  rw [set4] at this
  exact this
 ·rcases K2.sub b hb with hb | hb
  ·exact K.sub b hb
  ·omega
 ·rcases List.mem_cons.1 hb with rfl | hb
  ·exact .inl List.mem_cons_self
  ·exact (K.sub b hb).imp (List.mem_cons_of_mem _) id
theorem sl3_to (h : AHeap) {c m k : Nat} (hk : k ≤ m) : sliceA Try.prog h TChgs (.sl c 0 m 3) none (some (.int .i64 (k : Int))) = some (.val (.sl c 0 k 3), h) :=
 slice_to (P := Try.prog) (e := TChg) (k1 := .i64) (by kernel_rfl) (by kernel_rfl) (by kernel_rfl) hk
theorem LooseAt.take {S : List Nat} (k : LooseAt h v l) (hS : ∀ b ∈ blkV v, b ∉ S) {j : Nat} (hj : j ≤ l.length) : ∃ v', sliceA Try.prog h TChgs v none (some (.int .i64 (j : Int))) = some (.val v', h) ∧ RdL h S v' (l.take j) := by
 rcases k with ⟨rfl, rfl⟩ | ⟨c, rfl, h2, h3⟩
 ·have hj0 : j = 0 := Nat.le_zero.1 hj
  subst hj0
  exact ⟨.nsl, by kernel_rfl, rfl, fun _ _ i hi => absurd hi (Nat.not_lt_zero _)⟩
 ·have hl : (l.take j).length = j := by rw [List.length_take]; omega
  refine ⟨.sl c 0 j 3, sl3_to h hj, by rw [hl]; rfl, fun H t i hi => ⟨_, idx3 (by omega), ?_⟩⟩
  have k2 := h2.tch t h3 (hS c (List.mem_singleton.2 rfl))
  have := chgs_ld (l := l) (rest := []) (i := i) (by rw [List.append_nil]; exact k2) (by omega)
  rw [this, List.getElem_take]
end
section
variable {lo : Nat → Prop} {n d db : Nat} {h : AHeap} {D : List AV} {fs : Nat → FileS} {vs : Nat → Nat → AV} {p : Int} {ops B f : Nat} {s : DS}
theorem crash_do (hn : 1000000 < n) (K : DiskAt lo h db D fs vs p ops B) (hf : f < 32) (hb : B < 900000) {kept torn : Int} (ht : torn < 9223372036854775808) {Q : ARes → AHeap → Prop} {call2 : AHeap → R}
  (hk : ∀ H v, DoAt h H db TDisk (5 * f + 0) D (vs f 0) v (crashC (fs f) kept torn) → Wp (call2 H) Q) :
  Wp (
 lett (if 0 > kept then 0 else kept) fun (t8 : Int) =>
 Abs.obind (nilC (.ptr db (5 * f))) fun t10 =>
 Abs.obind (fldP 4 t10) fun t11 =>
 Abs.obind (ldCell h t11) fun v12 =>
 Abs.obind (lenL v12) fun t13 =>
 lett (if t13 < t8 then t13 else t8) fun (t14 : Int) =>
 Abs.obind (nilC (.ptr db (5 * f))) fun t16 =>
 Abs.obind (fldP 0 t16) fun t17 =>
 Abs.obind (nilC (.ptr db (5 * f))) fun t19 =>
 Abs.obind (fldP 4 t19) fun t20 =>
 Abs.obind (ldCell h t20) fun v21 =>
 Abs.outK (sliceA Try.prog h TChgs v21 none (some (.int .i64 t14))) fun v23 h_14 =>
 Abs.callN (world n (d + 2) 72 [t17, v23] h_14) fun _ h_16 =>
 Abs.obind (nilC (.ptr db (5 * f))) fun t27 =>
 Abs.obind (fldP 4 t27) fun t28 =>
 Abs.obind (ldCell h_16 t28) fun v29 =>
 Abs.obind (lenL v29) fun t30 =>
 lett (decide (t14 < t30)) fun (t31 : Bool) =>
 lett (fun (t35 : Bool) (h_25 : AHeap) =>
  lett call2 fun k28 =>
  ifB t35
  (
   Abs.obind (nilC (.ptr db (5 * f))) fun t37 =>
   Abs.obind (fldP 4 t37) fun t38 =>
   Abs.obind (ldCell h_25 t38) fun v39 =>
   Abs.obind (idxP 3 v39 t14) fun t41 =>
   Abs.obind (ldRow h_25 3 t41) fun t42 =>
   lett (newH h_25 TChg [.int .i64 0, .str 0 0, .int .i64 0]) fun h_50 =>
   Abs.obind (stRow h_50 3 t42 (newP h_25)) fun h_52 =>
   Abs.obind (ldCell h_52 (AV.ptr (AHeap.next h_25) 0)) fun v44 =>
   Abs.obind (avInt .i64 v44) fun t44 =>
   lett ((t44 : Int) == 0) fun (t45 : Bool) =>
   lett (fun (t50 : Bool) (h_58 : AHeap) =>
    lett (fun  (h_62 : AHeap) =>
     k28 h_62) fun k61 =>
    ifB t50
    (
     Abs.obind (ldCell h_58 (AV.ptr (AHeap.next h_25) 1)) fun v52 =>
     Abs.obind (avStr v52) fun t52 =>
     Abs.obind (ldCell h_58 (AV.ptr (AHeap.next h_25) 1)) fun v55 =>
     Abs.obind (avStr v55) fun t55 =>
     lett (IntKind.i64.wrap ((lenS t55) - 1)) fun (t57 : Int) =>
     lett (if t57 < torn then t57 else torn) fun (t58 : Int) =>
     Abs.obind (sliceS t52 0 t58) fun t59 =>
     Abs.obind (stRow h_58 1 [strA t59] (AV.ptr (AHeap.next h_25) 1)) fun h_71 =>
     Abs.obind (nilC (.ptr db (5 * f))) fun t62 =>
     Abs.obind (fldP 0 t62) fun t63 =>
     Abs.obind (ldRow h_71 3 (newP h_25)) fun t64 =>
     Abs.outK (bldSl Try.prog h_71 TChgs 1 [(0, .agg t64)]) fun v65 h_76 =>
     Abs.callN (world n (d + 2) 72 [t63, v65] h_76) fun _ h_78 =>
     k61 h_78)
    (
     k61 h_58)) fun j50 =>
   ifB t45
   (
    Abs.obind (ldCell h_52 (AV.ptr (AHeap.next h_25) 1)) fun v48 =>
    Abs.obind (avStr v48) fun t48 =>
    lett (!eqS t48 ([] : Bytes)) fun (t49 : Bool) =>
    j50 t49 h_52)
   (
    j50 false h_52))
  (
   k28 h_25)) fun j35 =>
 ifB t31
 (
  lett (decide (torn > 0)) fun (t34 : Bool) =>
  j35 t34 h_16)
 (
  j35 false h_16)) Q := by
 have C := K.cells f hf
 have Mf := K.mem f hf
 obtain ⟨o1, o2, o3, o4⟩ := K.ok f hf
 have hlen := K.len
 have hdb := K.hdb
 have dis : ∀ b ∈ blkV (vs f 2), b ∉ db :: blkV (vs f 0) := fun b hb hm => by
  rcases List.mem_cons.1 hm with rfl | hm
  ·exact K.nd hf (by decide) hb
  ·exact K.ne hf (by decide) hf (by decide) (fun h => absurd h.2 (by decide)) b hb hm
 have hL := (Mf.loose.rd dis).1
 obtain ⟨k, hkk⟩ : ∃ k, k = keptN (fs f) kept := ⟨_, rfl⟩
 have hk14 : (if ((fs f).loose.length : Int) < (if 0 > kept then 0 else kept) then ((fs f).loose.length : Int) else (if 0 > kept then 0 else kept)) = (k : Int) := by
  rw [hkk]
  unfold keptN
  split <;> split at * <;> omega
 have hkl : k ≤ (fs f).loose.length := by
  rw [hkk]
  exact Nat.min_le_right _ _
 refine Wp.lett (Wp.obind (nilC_ptr _ _) (Wp.obind (fldP_ptr _ _ _) (Wp.obind (RowH.cell' K.row C.c4) (Wp.obind hL ?_))))
 rw [hk14]
 refine Wp.lett (Wp.obind (nilC_ptr _ _) (Wp.obind (fldP_ptr _ _ _) (Wp.obind (nilC_ptr _ _) (Wp.obind (fldP_ptr _ _ _) (Wp.obind (RowH.cell' K.row C.c4) ?_)))))
 obtain ⟨v', e1, rd1⟩ := Mf.loose.take dis hkl
 refine Wp.outK e1 ?_
 have hst := sumL_take (fs f).loose k
 obtain ⟨h4, v4, e4, K4⟩ := do_ok (n := n) (d := d + 1) (T := TDisk) (o := 5 * f + 0) (x := (fs f).sure) hn hdb K.row C.c0 C.c1 Mf.sure (K.nd hf (by decide)) K.ex rd1 (by rw [List.length_take]; omega) (Legal_take _ _ k o2) (by omega)
 refine Wp.callN e4 ?_
 have hdb4 : db < h4.next := Nat.lt_of_lt_of_le hdb K4.tch.1
 have g4 : ((D.set (5 * f + 0) (.bool (doL (fs f).sure ((fs f).loose.take k)).th)).set (5 * f + 0 + 1) v4)[5 * f + 4]? = some (vs f 2) := by
  rw [List.getElem?_set_ne (by omega), List.getElem?_set_ne (by omega)]
  exact C.c4
 refine Wp.obind (nilC_ptr _ _) (Wp.obind (fldP_ptr _ _ _) (Wp.obind (RowH.cell' K4.row g4) (Wp.obind hL (Wp.lett (Wp.lettG fun j35 e35 => ?_)))))
 have hcc : crashC (fs f) kept torn = match (fs f).loose[k]? with
   | some c => if tears c torn then do1 (doL (fs f).sure ((fs f).loose.take k)) (tornC c torn) else doL (fs f).sure ((fs f).loose.take k)
   | none => doL (fs f).sure ((fs f).loose.take k) := by
  rw [hkk]
  rfl
 by_cases h1 : k < (fs f).loose.length
 ·refine Wp.ift (by rw [decide_eq_true_eq]; omega) (Wp.lett ?_)
  rw [List.getElem?_eq_getElem h1] at hcc
  obtain ⟨c, hc⟩ : ∃ c, c = (fs f).loose[k] := ⟨_, rfl⟩
  rw [← hc] at hcc
  have hcc : crashC (fs f) kept torn = if tears c torn then do1 (doL (fs f).sure ((fs f).loose.take k)) (tornC c torn) else doL (fs f).sure ((fs f).loose.take k) := hcc
  by_cases h2 : 0 < torn
  ·rw [decide_eq_true (show torn > 0 from h2), e35]
   refine Wp.lettG fun k28 e28 => Wp.ift rfl ?_
   obtain ⟨pp, i5, r5⟩ := (Mf.loose.rd dis).2 h4 K4.tch k h1
   rw [← hc] at r5
   refine Wp.obind (nilC_ptr _ _) (Wp.obind (fldP_ptr _ _ _) (Wp.obind (RowH.cell' K4.row g4) (Wp.obind i5 (Wp.obind r5 ?_))))
   refine Wp.mnew (Mem.nil [] h4) fun h5 M5 => ?_
   rw [newP_eq]
   refine Wp.sa0 M5 rfl rfl rfl fun h6 M6 => ?_
   have t6 := M6.tch
   have hn6 := t6.1
   refine Wp.ld0 M6 (show (chgC c)[0]? = some (.int .i64 (c.k : Int)) from rfl) (Wp.obind (avInt_int _ _) (Wp.lett (Wp.lettG fun j50 e50 => ?_)))
   have K6 : DoAt h h6 db TDisk (5 * f + 0) D (vs f 0) v4 (doL (fs f).sure ((fs f).loose.take k)) := ⟨K4.row.tch t6 hdb4 (fun h => nomatch h), K4.buf.tch t6 (fun _ _ h => nomatch h), K4.ndb, K4.sub, K4.tch.trans' t6 (fun b hb => nomatch hb), by rw [t6.2.1, K4.ex]⟩
   have no : ¬ tears c torn → Wp (j50 false h6) Q := by
    intro hno
    rw [if_neg hno] at hcc
    rw [e50]
    refine Wp.lettG fun k61 e61 => Wp.iff rfl ?_
    rw [e61, e28]
    exact hk h6 v4 (by rw [hcc]; exact K6)
   by_cases h3 : c.k = 0
   ·refine Wp.ift (beq_t (by omega)) (Wp.ld0 M6 (show (chgC c)[1]? = some (strA c.s) from rfl) (Wp.obind (avStr_str _) (Wp.lett ?_)))
    by_cases h4s : c.s = []
    ·rw [eqS_true.2 h4s]
     exact no (fun h => h.2.2 h4s)
    ·rw [eqS_false.2 h4s, e50]
     have hy : tears c torn := ⟨h2, h3, h4s⟩
     rw [if_pos hy] at hcc
     have hsl : 0 < c.s.length := List.length_pos_iff.2 h4s
     have hcs : c.s.length ≤ B := by
      have := sumL_at (fs f).loose k h1
      rw [← hc] at this
      omega
     have hll := lenS_nat c.s
     refine Wp.lettG fun k61 e61 => Wp.ift rfl ?_
     refine Wp.ld0 M6 (show (chgC c)[1]? = some (strA c.s) from rfl) (Wp.obind (avStr_str _) (Wp.ld0 M6 (show (chgC c)[1]? = some (strA c.s) from rfl) (Wp.obind (avStr_str _) (Wp.lettw (by omega) (by omega) ?_))))
     have hmin : (if lenS c.s - 1 < torn then lenS c.s - 1 else torn) = min torn ((c.s.length : Int) - 1) := by
      split <;> omega
     rw [hmin]
     have hs0 := sliceS_int (l := c.s) (a := 0) (b := min torn ((c.s.length : Int) - 1)) (by omega) (by omega) (by omega)
     have hs1 : (c.s.drop (0 : Int).toNat).take ((min torn ((c.s.length : Int) - 1)).toNat - (0 : Int).toNat) = (tornC c torn).s := by
      rw [show (0 : Int).toNat = 0 from rfl, List.drop_zero, Nat.sub_zero]
      rfl
     rw [hs1] at hs0
     refine Wp.lett (Wp.obind hs0 ?_)
     refine Wp.ms0 M6 (by show 1 < 3; decide) rfl fun h7 M7 => ?_
     refine Wp.obind (nilC_ptr _ _) (Wp.obind (fldP_ptr _ _ _) (Wp.lr0 M7 rfl ?_))
     have hset : (chgC c).set 1 (strA (tornC c torn).s) = chgC (tornC c torn) := by
      show [AV.int .i64 (c.k : Int), strA (tornC c torn).s, .int .i64 c.n] = [AV.int .i64 ((0 : Nat) : Int), strA (tornC c torn).s, .int .i64 c.n]
      rw [h3]
     rw [hset] at M7 ⊢
     have hx7 : h7.ex = [89] := by rw [M7.tch.2.1, K4.ex]
     refine Wp.mnews M7 (bldSlChg _ _ _ _) rfl (by rw [K4.ex]; rfl) fun h8 M8 => ?_
     have t7 := M7.tch
     have t8 := M8.tch
     have K8 : DoAt h h8 db TDisk (5 * f + 0) D (vs f 0) v4 (doL (fs f).sure ((fs f).loose.take k)) := ⟨K4.row.tch t8 hdb4 (fun h => nomatch h), K4.buf.tch t8 (fun _ _ h => nomatch h), K4.ndb, K4.sub, K4.tch.trans' t8 (fun b hb => nomatch hb), by rw [t8.2.1, K4.ex]⟩
     have hn7 := t7.1
     have hh8 := M8.at0.2.1
     have rd : RdL h8 (db :: blkV v4) (.sl h7.next 0 1 3) [tornC c torn] := by
      refine ⟨rfl, fun HH t i hi => ?_⟩
      have hi0 : i = 0 := by
       have : i < 1 := hi
       omega
      subst hi0
      refine ⟨_, idx3 (by decide), ?_⟩
      refine RowH.ldAll (M8.at0.1.tch t hh8 fun hm => ?_) rfl
      rcases List.mem_cons.1 hm with hm | hm
      ·omega
      ·have := K4.buf.lt _ hm
       omega
     have gl : 5 * f + 0 + 1 < ((D.set (5 * f + 0) (.bool (doL (fs f).sure ((fs f).loose.take k)).th)).set (5 * f + 0 + 1) v4).length := by
      rw [List.length_set, List.length_set]
      omega
     have hdl := doL_len ((fs f).loose.take k) (fs f).sure
     have hat := sumL_at (fs f).loose k h1
     rw [← hc] at hat
     have htl : (tornC c torn).s.length ≤ c.s.length := by
      show (c.s.take _).length ≤ _
      rw [List.length_take]
      exact Nat.min_le_right _ _
     obtain ⟨h9, v9, e9, K9⟩ := do_ok (n := n) (d := d + 1) (T := TDisk) (o := 5 * f + 0) (D := ((D.set (5 * f + 0) (.bool (doL (fs f).sure ((fs f).loose.take k)).th)).set (5 * f + 0 + 1) v4)) (x := doL (fs f).sure ((fs f).loose.take k)) hn (Nat.lt_of_lt_of_le hdb4 t8.1) K8.row (by rw [List.getElem?_set_ne (by omega), List.getElem?_set_self (by omega)]) (by rw [List.getElem?_set_self (by rw [List.length_set]; omega)]) K8.buf K8.ndb K8.ex rd (by show 1 < 1000000; decide) ⟨.inl rfl, trivial⟩ (by show _ + ((tornC c torn).s.length + 0) ≤ _; omega)
     refine Wp.callN e9 ?_
     rw [e61, e28]
     exact hk h9 v9 (by rw [hcc]; exact K8.trans K9)
   ·refine Wp.iff (beq_f (by omega)) ?_
    exact no (fun h => h3 h.2.1)
  ·rw [decide_eq_false (show ¬ torn > 0 from h2), e35]
   rw [if_neg (fun h => h2 h.1)] at hcc
   refine Wp.lettG fun k28 e28 => Wp.iff rfl ?_
   rw [e28]
   exact hk h4 v4 (by rw [hcc]; exact K4)
 ·rw [List.getElem?_eq_none (by omega)] at hcc
  refine Wp.iff (by rw [decide_eq_false_iff_not]; omega) ?_
  rw [e35]
  refine Wp.lettG fun k28 e28 => Wp.iff rfl ?_
  rw [e28]
  exact hk h4 v4 (by rw [hcc]; exact K4)
end
section
variable {lo : Nat → Prop} {n d db : Nat} {h : AHeap} {D : List AV} {fs : Nat → FileS} {vs : Nat → Nat → AV} {p : Int} {ops B f : Nat} {s : DS}
theorem fcrash_ok (hn : 1000000 < n) (K : DiskAt lo h db D fs vs p ops B) (hf : f < 32) (hb : B < 900000) {kept torn : Int} (ht : torn < 9223372036854775808) :
  ∃ h' D' vs' S, world n (d + 3) 49 [.ptr db (5 * f), .int .i64 kept, .int .i64 torn] h = some (.ret (.tup []), h') ∧ DiskAt lo h' db D' (upd fs f (crashF (fs f) kept torn)) vs' p ops B ∧ Tch S h h' ∧ ∀ b ∈ S, lo b := by
 suffices hK : Wp (world n (d + 3) 49 [.ptr db (5 * f), .int .i64 kept, .int .i64 torn] h) fun r h' => r = .ret (.tup []) ∧ ∃ D' vs' S, DiskAt lo h' db D' (upd fs f (crashF (fs f) kept torn)) vs' p ops B ∧ Tch S h h' ∧ ∀ b ∈ S, lo b by
  obtain ⟨_, h', e, rfl, D', vs', S, k⟩ := hK
  exact ⟨h', D', vs', S, e, k⟩
 rw [w_disk_file_crash]
 unfold disk_file_crash
 refine crash_do hn K hf hb ht (fun H v K4 => ?_)
 have C := K.cells f hf
 have Mf := K.mem f hf
 have hlen := K.len
 have hdb := K.hdb
 have hcl := crashC_len kept torn (K.ok f hf)
 have hdb4 : db < H.next := Nat.lt_of_lt_of_le hdb K4.tch.1
 have g0 : ((D.set (5 * f + 0) (.bool (crashC (fs f) kept torn).th)).set (5 * f + 0 + 1) v)[5 * f + 0]? = some (.bool (crashC (fs f) kept torn).th) := by
  rw [List.getElem?_set_ne (by omega), List.getElem?_set_self (by omega)]
 have g1 : ((D.set (5 * f + 0) (.bool (crashC (fs f) kept torn).th)).set (5 * f + 0 + 1) v)[5 * f + 0 + 1]? = some v := by
  rw [List.getElem?_set_self (by rw [List.length_set]; omega)]
 obtain ⟨h5, v5, e5, k5, t5, s5⟩ := copy_ok (n := n) (d := d) K4.row hdb4 g0 g1 K4.buf K4.ex (by omega)
 refine Wp.obind (nilC_ptr _ _) (Wp.obind (fldP_ptr _ _ _) (Wp.callN e5 (Wp.obind (avAgg_agg _) (Wp.obind (nilC_ptr _ _) (Wp.obind (fldP_ptr _ _ _) ?_)))))
 have hn5 := t5.1
 have kr5 := K4.row.tch t5 hdb4 (fun h => nomatch h)
 have hl4 : ((D.set (5 * f + 0) (.bool (crashC (fs f) kept torn).th)).set (5 * f + 0 + 1) v).length = 162 := by rw [List.length_set, List.length_set]; exact hlen
 refine Wp.stN kr5 (rfl : ([.bool (crashC (fs f) kept torn).th, v5] : List AV).length = 2) (show 5 * f + 2 + 2 ≤ _ by omega) (by rw [show [AV.bool (crashC (fs f) kept torn).th, v5].all AV.one = (true && (v5.one && true)) from rfl, k5.one.1]; rfl) fun h6 k6 t6 n6 => ?_
 rw [laid2 (show 5 * f + 2 + 1 < _ by omega)] at k6
 refine Wp.obind (nilC_ptr _ _) (Wp.obind (fldP_ptr _ _ _) ?_)
 show Wp (Abs.obind (stRow h6 1 [AV.nsl] (.ptr db (5 * f + 4))) _) _
 refine Wp.st1 k6 (show 5 * f + 4 < _ by rw [List.length_set, List.length_set]; omega) rfl fun h7 k7 t7 n7 => ?_
 have hn4 := K4.tch.1
 have td : ∀ b ∈ [db], b ∈ db :: blkV (vs f 0) ∨ h.next ≤ b := fun b hb => .inl (by rw [List.mem_singleton.1 hb]; exact List.mem_cons_self)
 have T : Tch (db :: blkV (vs f 0)) h h7 := (((K4.tch.trans' t5 fun b hb => nomatch hb).trans' t6 td).trans' t7 td)
 have nd5 : db ∉ blkV v5 := fun hb => by
  have := s5 _ hb
  omega
 have KU := K.upd (B' := B) (x := crashF (fs f) kept torn) (w := fun k => if k = 0 then v else if k = 1 then v5 else .nsl) hf T (fun b hb => ?_) k7 (by rw [List.length_set, List.length_set, List.length_set]; exact hl4) ⟨?_, ?_, ?_, ?_, ?_⟩ (fun i hi => ?_) (fun k hk b hb => ?_) (fun k l hk hl hne b hb hb' => ?_) ⟨?_, ?_, ?_⟩ (crashF_ok kept torn (K.ok f hf)) (Nat.le_refl _)
 ·refine Wp.ret ⟨rfl, _, _, db :: blkV (vs f 0), KU, T, fun b hb => ?_⟩
  rcases List.mem_cons.1 hb with hb | hb
  ·rw [hb]
   exact K.hlo
  ·exact K.low f 0 hf (by decide) b hb
 ·rcases List.mem_cons.1 hb with hb | hb
  ·exact .inl hb
  ·exact .inr ⟨0, by decide, hb⟩
 ·rw [List.getElem?_set_ne (by omega), List.getElem?_set_ne (by omega), List.getElem?_set_ne (by omega)]
  exact g0
 ·rw [List.getElem?_set_ne (by omega), List.getElem?_set_ne (by omega), List.getElem?_set_ne (by omega)]
  exact g1
 ·rw [List.getElem?_set_ne (by omega), List.getElem?_set_ne (by omega), List.getElem?_set_self (by omega)]
  rfl
 ·rw [List.getElem?_set_ne (by omega), List.getElem?_set_self (by rw [List.length_set]; omega)]
  rfl
 ·rw [List.getElem?_set_self (by rw [List.length_set, List.length_set]; omega)]
  rfl
 ·rw [List.getElem?_set_ne (by omega), List.getElem?_set_ne (by omega), List.getElem?_set_ne (by omega), List.getElem?_set_ne (by omega), List.getElem?_set_ne (by omega)]
 ·rcases k with _ | _ | k
  ·exact K4.sub b hb
  ·right
   have := s5 b hb
   omega
  ·exact nomatch hb
 ·have q01 : b ∈ blkV v → b ∈ blkV v5 → False := fun h0 h1 => by
   have h2 := s5 b h1
   have h3 := K4.buf.lt b h0
   omega
  rcases k with _ | _ | k <;> rcases l with _ | _ | l
  ·omega
  ·exact q01 hb hb'
  ·exact nomatch hb'
  ·exact q01 hb' hb
  ·omega
  ·exact nomatch hb'
  ·exact nomatch hb
  ·exact nomatch hb
  ·exact nomatch hb
 ·have k1 := K4.buf.tch t5 (fun _ _ h => nomatch h)
  have k2 := k1.tch t6 fun b hb hm => K4.ndb (List.mem_singleton.1 hm ▸ hb)
  exact k2.tch t7 fun b hb hm => K4.ndb (List.mem_singleton.1 hm ▸ hb)
 ·have k2 := k5.tch t6 fun b hb hm => nd5 (List.mem_singleton.1 hm ▸ hb)
  exact k2.tch t7 fun b hb hm => nd5 (List.mem_singleton.1 hm ▸ hb)
 ·exact .inl ⟨rfl, rfl⟩
def RdI (lo : Nat → Prop) (h : AHeap) (lv : AV) (zs : List Int) : Prop := lenL lv = some (zs.length : Int) ∧ ∀ S H, Tch S h H → (∀ b ∈ S, lo b) → ∀ (i : Nat) (hi : i < zs.length), ∃ p, idxP 1 lv (i : Int) = some p ∧ ldCell H p = some (.int .i64 zs[i])
theorem RdI.tch {S : List Nat} {h h' : AHeap} {lv : AV} {zs : List Int} (k : RdI lo h lv zs) (t : Tch S h h') (hS : ∀ b ∈ S, lo b) : RdI lo h' lv zs :=
 ⟨k.1, fun S' H t' hS' i hi => k.2 (S ++ S') H ((t.mono fun _ hb => .inl (List.mem_append_left _ hb)).trans (t'.mono fun _ hb => .inl (List.mem_append_right _ hb))) (fun b hb => (List.mem_append.1 hb).elim (hS b) (hS' b)) i hi⟩
def keepAt (zs : List Int) (f : Nat) : Int := zs.getD f 0
def crashD (s : DS) (zs : List Int) (torn : Int) : DS := ⟨fun f => if f < 32 then crashF (s.fs f) (keepAt zs f) torn else s.fs f, -1, s.ops⟩
theorem crash_loop (hn : 1000000 < n) (hb : B < 900000) {torn : Int} (ht : torn < 9223372036854775808) {lv : AV} {zs : List Int} (hz : zs.length < 9223372036854775808) {k11 : AHeap → R} {Q : ARes → AHeap → Prop}
  (hk : ∀ S H, At lo H db ⟨fun f => if f < 32 then crashF (s.fs f) (keepAt zs f) torn else s.fs f, s.p, s.ops⟩ B → Tch S h H → (∀ b ∈ S, lo b) → Wp (k11 H) Q) :
  ∀ (r i fu : Nat) (H : AHeap) (S : List Nat), r + i = 32 → r < fu → At lo H db ⟨fun f => if f < i then crashF (s.fs f) (keepAt zs f) torn else s.fs f, s.p, s.ops⟩ B → Tch S h H → (∀ b ∈ S, lo b) → RdI lo H lv zs →
   Wp (disk_Disk_Crash_L0 (world n (d + 3)) (.ptr db 0) lv torn k11 fu (i : Int) H) Q
 | _, _, 0, _, _, _, hf, _, _, _, _ => by omega
 | 0, i, fu + 1, H, S, hi, hf, K, t, hS, rd => by
  obtain rfl : i = 32 := by omega
  rw [disk_Disk_Crash_L0_s]
  unfold disk_Disk_Crash_L0b
  refine Wp.lett (Wp.iff rfl ?_)
  exact hk S H K t hS
 | r + 1, i, fu + 1, H, S, hi, hf, K, t, hS, rd => by
  obtain ⟨D, vs, K⟩ := K
  have hi32 : i < 32 := by omega
  rw [disk_Disk_Crash_L0_s]
  unfold disk_Disk_Crash_L0b
  refine Wp.lett (Wp.ift (by rw [decide_eq_true_eq]; omega) ?_)
  refine Wp.obind rd.1 (Wp.lett (Wp.lettG fun k32 e32 => ?_))
  have next : ∀ z : Int, z = keepAt zs i → Wp (k32 z H) Q := by
   intro z hzk
   rw [e32, hzk]
   refine Wp.obind (nilC_ptr _ _) (Wp.obind (fldP_ptr _ _ _) (Wp.obind (idxF hi32) ?_))
   obtain ⟨h2, D2, vs2, S2, e2, K2, t2, hS2⟩ := fcrash_ok (n := n) (d := d) hn K hi32 hb (kept := keepAt zs i) ht
   refine Wp.callN e2 (Wp.lettw (by omega) (by omega) ?_)
   rw [show (i : Int) + 1 = ((i + 1 : Nat) : Int) by omega]
   refine crash_loop hn hb ht hz hk r (i + 1) fu h2 (S ++ S2) (by omega) (by omega) ⟨D2, vs2, ?_⟩ ((t.mono fun _ hb => .inl (List.mem_append_left _ hb)).trans (t2.mono fun _ hb => .inl (List.mem_append_right _ hb))) (fun b hb => (List.mem_append.1 hb).elim (hS b) (hS2 b)) (rd.tch t2 hS2)
   have ef : upd (fun f => if f < i then crashF (s.fs f) (keepAt zs f) torn else s.fs f) i (crashF ((fun f => if f < i then crashF (s.fs f) (keepAt zs f) torn else s.fs f) i) (keepAt zs i) torn) = fun f => if f < i + 1 then crashF (s.fs f) (keepAt zs f) torn else s.fs f := by
    funext j
    unfold Go.Proofs.Ytpnccmlajhhpdaa.upd
    dsimp only
    by_cases e : j = i
    ·subst e
     rw [if_pos rfl, if_neg (Nat.lt_irrefl _), if_pos (Nat.lt_succ_self _)]
    ·rw [if_neg e]
     by_cases e2 : j < i
     ·rw [if_pos e2, if_pos (by omega)]
     ·rw [if_neg e2, if_neg (by omega)]
   rw [← ef]
   exact K2
  by_cases h1 : i < zs.length
  ·obtain ⟨pp, q1, q2⟩ := rd.2 [] H (Tch.refl _ _) (fun _ h => nomatch h) i h1
   refine Wp.ift (by rw [decide_eq_true_eq]; omega) (Wp.obind q1 (Wp.obind q2 (Wp.obind (avInt_int _ _) ?_)))
   refine next _ ?_
   unfold keepAt
   rw [List.getD_eq_getElem?_getD, List.getElem?_eq_getElem h1]
   rfl
  ·refine Wp.iff (by rw [decide_eq_false_iff_not]; omega) ?_
   refine next _ ?_
   unfold keepAt
   rw [List.getD_eq_getElem?_getD, List.getElem?_eq_none (by omega)]
   rfl
theorem crash_ok (hn : 1000000 < n) (hb : B < 900000) {torn : Int} (ht : torn < 9223372036854775808) {lv : AV} {zs : List Int} (hz : zs.length < 9223372036854775808) (K : At lo h db s B) (rd : RdI lo h lv zs) :
  Does lo db h (world n (d + 4) 25 [.ptr db 0, lv, .int .i64 torn] h) 0 (crashD s zs torn) B := by
 apply Does.of
 rw [w_disk_Disk_Crash]
 unfold disk_Disk_Crash
 refine Wp.outK (eqDisk db 0 h) (Wp.obind (avBool_bool _) (Wp.iff rfl (Wp.lettG fun k11 e11 => ?_)))
 refine crash_loop (s := s) hn hb ht hz (fun S H K' t hS => ?_) 32 0 n h [] rfl (by omega) ?_ (Tch.refl _ _) (fun _ h => nomatch h) rd
 ·obtain ⟨D, vs, K'⟩ := K'
  have hl := K'.len
  rw [e11]
  refine Wp.obind (nilC_ptr _ _) (Wp.obind (fldP_ptr _ _ _) ?_)
  refine Wp.st1 K'.row (show 0 + 160 < D.length by omega) rfl fun h2 k2 t2 n2 => ?_
  rw [Nat.zero_add] at k2
  refine Wp.ret ⟨rfl, db :: S, ⟨_, vs, K'.setP (p' := -1) ⟨Int.le_refl _, by decide⟩ k2 t2⟩, (t.mono fun _ hb => .inl (List.mem_cons_of_mem _ hb)).trans' t2 fun b hb => .inl (by rw [List.mem_singleton.1 hb]; exact List.mem_cons_self), fun b hb => ?_⟩
  rcases List.mem_cons.1 hb with hb | hb
  ·rw [hb]
   exact K'.hlo
  ·exact hS b hb
 ·have e : (fun f => if f < 0 then crashF (s.fs f) (keepAt zs f) torn else s.fs f) = s.fs := by
   funext j
   rw [if_neg (Nat.not_lt_zero _)]
  rw [e]
  exact K
end
end Go.Proofs.Ytpnccmlajhhpdaa
namespace Go.Proofs.Ytpnccmlajhhpdaa
open Go.RowKit Abs
structure Mk where
 i : Int
 t : Int
deriving DecidableEq
def mkOk (m : Mk) : Prop := ((1 ≤ m.i ∧ m.i ≤ 1048576) ∧ 0 ≤ m.t) ∧ m.t ≤ 1099511627776
instance (m : Mk) : Decidable (mkOk m) := inferInstanceAs (Decidable (_ ∧ _))
def nameB : Bytes := [115, 110, 97, 112, 115, 104, 111, 116]
def headB (m : Mk) (n : Nat) : Bytes := nameB ++ numB 8 m.i.toNat ++ numB 8 m.t.toNat ++ numB 8 n
def pcs : Nat → Bytes → List Bytes
 | 0, _ => []
 | f + 1, u => if u = [] then [] else u.take 2048 :: pcs f (u.drop 2048)
def joinF (l : List Bytes) : Bytes := (l.map frameB).flatten
def snapB (m : Mk) (u : Bytes) : Bytes := frameB (headB m u.length) ++ joinF (pcs u.length u)
theorem headB_len (m : Mk) (n : Nat) : (headB m n).length = 32 := by
 unfold headB
 simp only [List.length_append, numB_length]
 rfl
theorem pcs_nil : ∀ f : Nat, pcs f [] = []
 | 0 => rfl
 | _ + 1 => if_pos rfl
theorem pcs_any : ∀ (f g : Nat) (u : Bytes), u.length ≤ f → u.length ≤ g → pcs f u = pcs g u
 | 0, 0, _, _, _ => rfl
 | 0, g + 1, u, h, _ => by
  have : u = [] := List.length_eq_zero_iff.1 (by omega)
  subst this
  rfl
 | f + 1, 0, u, _, h => by
  have : u = [] := List.length_eq_zero_iff.1 (by omega)
  subst this
  rfl
 | f + 1, g + 1, u, h1, h2 => by
  unfold pcs
  by_cases hu : u = []
  ·rw [if_pos hu, if_pos hu]
  ·have := List.length_pos_iff.2 hu
   rw [if_neg hu, if_neg hu, pcs_any f g (u.drop 2048) (by rw [List.length_drop]; omega) (by rw [List.length_drop]; omega)]
theorem pcs_step {u : Bytes} (hu : u ≠ []) : pcs u.length u = u.take 2048 :: pcs (u.drop 2048).length (u.drop 2048) := by
 have h := List.length_pos_iff.2 hu
 obtain ⟨k, hk⟩ : ∃ k, u.length = k + 1 := ⟨u.length - 1, by omega⟩
 have e : pcs u.length u = u.take 2048 :: pcs k (u.drop 2048) := by
  rw [hk]
  exact if_neg hu
 rw [e, pcs_any k (u.drop 2048).length (u.drop 2048) (by rw [List.length_drop]; omega) (Nat.le_refl _)]
theorem pcs_flat : ∀ (f : Nat) (u : Bytes), u.length ≤ f → (pcs f u).flatten = u
 | 0, u, h => (List.length_eq_zero_iff.1 (Nat.le_zero.1 h)).symm
 | f + 1, u, h => by
  unfold pcs
  by_cases hu : u = []
  ·rw [if_pos hu, hu]
   rfl
  ·have := List.length_pos_iff.2 hu
   rw [if_neg hu, List.flatten_cons, pcs_flat f (u.drop 2048) (by rw [List.length_drop]; omega), List.take_append_drop]
theorem pcs_le : ∀ (f : Nat) (u : Bytes), ∀ p ∈ pcs f u, p.length ≤ 2048 ∧ p ≠ []
 | 0, _, _, h => nomatch h
 | f + 1, u, p, h => by
  unfold pcs at h
  by_cases hu : u = []
  ·rw [if_pos hu] at h
   cases h
  ·rw [if_neg hu] at h
   rcases List.mem_cons.1 h with rfl | h
   ·have := List.length_pos_iff.2 hu
    refine ⟨by rw [List.length_take]; omega, fun e => ?_⟩
    have : (u.take 2048).length = 0 := by rw [e]; rfl
    rw [List.length_take] at this
    omega
   ·exact pcs_le f _ p h
theorem pcs_len : ∀ (f : Nat) (u v : Bytes), u.length = v.length → (joinF (pcs f u)).length = (joinF (pcs f v)).length
 | 0, _, _, _ => rfl
 | f + 1, u, v, h => by
  unfold pcs
  by_cases hu : u = []
  ·have hv : v = [] := List.length_eq_zero_iff.1 (by rw [← h, hu]; rfl)
   rw [if_pos hu, if_pos hv]
  ·have hv : v ≠ [] := fun e => hu (List.length_eq_zero_iff.1 (by rw [h, e]; rfl))
   rw [if_neg hu, if_neg hv]
   show (frameB (u.take 2048) ++ joinF (pcs f (u.drop 2048))).length = (frameB (v.take 2048) ++ joinF (pcs f (v.drop 2048))).length
   rw [List.length_append, List.length_append, frameB_length, frameB_length, List.length_take, List.length_take, pcs_len f (u.drop 2048) (v.drop 2048) (by rw [List.length_drop, List.length_drop, h]), h]
theorem joinF_len : ∀ (f : Nat) (u : Bytes), u.length ≤ f → (joinF (pcs f u)).length ≤ 13 * u.length
 | 0, _, _ => Nat.zero_le _
 | f + 1, u, h => by
  unfold pcs
  by_cases hu : u = []
  ·rw [if_pos hu]
   exact Nat.zero_le _
  ·have := List.length_pos_iff.2 hu
   have h2 := joinF_len f (u.drop 2048) (by rw [List.length_drop]; omega)
   rw [if_neg hu]
   show (frameB (u.take 2048) ++ joinF (pcs f (u.drop 2048))).length ≤ _
   rw [List.length_append, frameB_length, List.length_take]
   rw [List.length_drop] at h2
   omega
set_option maxRecDepth 20000 in
theorem joinF_len2 : ∀ (f : Nat) (u : Bytes), u.length ≤ f → (joinF (pcs f u)).length * 2048 ≤ u.length * 2060 + 12 * 2048
 | 0, u, _ => by
  have : (joinF (pcs 0 u)).length = 0 := rfl
  omega
 | f + 1, u, h => by
  unfold pcs
  by_cases hu : u = []
  ·rw [if_pos hu]
   have : (joinF []).length = 0 := rfl
   omega
  ·have := List.length_pos_iff.2 hu
   have h2 := joinF_len2 f (u.drop 2048) (by rw [List.length_drop]; omega)
   rw [if_neg hu]
   show (frameB (u.take 2048) ++ joinF (pcs f (u.drop 2048))).length * 2048 ≤ _
   rw [List.length_append, frameB_length, List.length_take]
   rw [List.length_drop] at h2
   by_cases hs : u.length ≤ 2048
   ·have e0 : u.drop 2048 = [] := List.drop_of_length_le hs
    have e1 : (joinF (pcs f (u.drop 2048))).length = 0 := by
     rw [e0, pcs_nil]
     rfl
    omega
   ·omega
theorem join_ge : ∀ (f : Nat) (u : Bytes), u.length ≤ f → u.length ≤ (joinF (pcs f u)).length
 | 0, u, h => Nat.le_trans h (Nat.zero_le _)
 | f + 1, u, h => by
  unfold pcs
  by_cases hu : u = []
  ·rw [hu]
   exact Nat.zero_le _
  ·have := List.length_pos_iff.2 hu
   have h2 := join_ge f (u.drop 2048) (by rw [List.length_drop]; omega)
   rw [if_neg hu]
   show _ ≤ (frameB (u.take 2048) ++ joinF (pcs f (u.drop 2048))).length
   rw [List.length_append, frameB_length, List.length_take]
   rw [List.length_drop] at h2
   omega
theorem scan_join {t : Bytes} : ∀ l : List Bytes, (∀ p ∈ l, p.length ≤ 4096) → (scanR (joinF l ++ t)).1 = l ++ (scanR t).1
 | [], _ => rfl
 | p :: l, h => by
  have hp := h p (List.mem_cons_self ..)
  have hk := frame_take (rest := joinF l ++ t) hp
  have e : joinF (p :: l) ++ t = frameB p ++ (joinF l ++ t) := by
   show (frameB p ++ joinF l) ++ t = _
   rw [List.append_assoc]
  rw [e, scanR_ok (by rw [hk]), hk]
  show p :: (scanR ((frameB p ++ (joinF l ++ t)).drop (p.length + 12))).1 = _
  rw [List.drop_left' (frameB_length _), scan_join l fun y hy => h y (List.mem_cons_of_mem _ hy)]
  rfl
theorem scan_nil : (scanR []).1 = [] := by rw [scanR_bad (by decide)]
theorem scan_snap (m : Mk) (u : Bytes) : (scanR (snapB m u)).1 = headB m u.length :: pcs u.length u := by
 have h := scan_join (t := []) (headB m u.length :: pcs u.length u) fun p hp => by
  rcases List.mem_cons.1 hp with rfl | hp
  ·rw [headB_len]
   decide
  ·have := (pcs_le _ _ p hp).1
   omega
 rw [List.append_nil, scan_nil, List.append_nil] at h
 exact h
theorem snapB_len (m : Mk) (u : Bytes) : (snapB m u).length = 44 + (joinF (pcs u.length u)).length := by
 unfold snapB
 rw [List.length_append, frameB_length, headB_len]
def mkV (p : Bytes) : Mk := ⟨IntKind.i64.wrap ((rNum (p.drop 8) 8 ⟨0, 0, 0⟩).1 : Int), IntKind.i64.wrap ((rNum (p.drop 8) 8 (rNum (p.drop 8) 8 ⟨0, 0, 0⟩).2).1 : Int)⟩
def readP : List Bytes → Bytes → Option (Mk × Bytes)
 | [], _ => none
 | p :: ps, s => if p.take 8 = nameB ∧ mkOk (mkV p) ∧ ps.flatten.length ≤ 262144 ∧ snapB (mkV p) ps.flatten = s then some (mkV p, ps.flatten) else none
def readF (s : Bytes) : Option (Mk × Bytes) := readP (scanR s).1 s
theorem readF_snap {s : Bytes} {m : Mk} {u : Bytes} (h : readF s = some (m, u)) : s = snapB m u ∧ mkOk m := by
 unfold readF at h
 cases hs : (scanR s).1 with
 | nil => rw [hs] at h; cases h
 | cons p ps =>
  rw [hs] at h
  have h : (if p.take 8 = nameB ∧ mkOk (mkV p) ∧ ps.flatten.length ≤ 262144 ∧ snapB (mkV p) ps.flatten = s then some (mkV p, ps.flatten) else none) = some (m, u) := h
  split at h
  ·rename_i hc
   cases h
   exact ⟨hc.2.2.2.symm, hc.2.1⟩
  ·cases h
theorem mkV_head {m : Mk} (hm : mkOk m) (n : Nat) : mkV (headB m n) = m := by
 obtain ⟨⟨⟨h1, h2⟩, h3⟩, h4⟩ := hm
 have l8 : ∀ v : Nat, (numB 8 v).length = 8 := fun v => numB_length 8 v
 have hp8 : 256 ^ 8 = 18446744073709551616 := rfl
 have e : (headB m n).drop 8 = numB 8 m.i.toNat ++ (numB 8 m.t.toNat ++ numB 8 n) := by
  have : headB m n = nameB ++ (numB 8 m.i.toNat ++ (numB 8 m.t.toNat ++ numB 8 n)) := by
   unfold headB
   simp only [List.append_assoc]
  rw [this]
  exact List.drop_left' rfl
 have r1 : rNum ((headB m n).drop 8) 8 ⟨0, 0, 0⟩ = (m.i.toNat, ⟨8, 0, 0⟩) := by
  rw [e]
  unfold rNum
  rw [if_neg (by simp), if_neg (by simp only [List.length_append, l8]; show ¬ 8 + (8 + 8) < 0 + 8; decide), List.drop_zero, List.take_left' (l8 _), numB_val 8 _ (by omega)]
 have r2 : rNum ((headB m n).drop 8) 8 ⟨8, 0, 0⟩ = (m.t.toNat, ⟨16, 0, 0⟩) := by
  rw [e]
  unfold rNum
  rw [if_neg (by simp), if_neg (by simp only [List.length_append, l8]; show ¬ 8 + (8 + 8) < 8 + 8; decide)]
  show (valB (((numB 8 m.i.toNat ++ (numB 8 m.t.toNat ++ numB 8 n)).drop 8).take 8), _) = _
  rw [List.drop_left' (l8 _), List.take_left' (l8 _), numB_val 8 _ (by omega)]
 unfold mkV
 rw [r1]
 dsimp only
 rw [r2]
 dsimp only
 rw [wrap_i64 (by omega) (by omega), wrap_i64 (by omega) (by omega)]
 show (⟨(m.i.toNat : Int), (m.t.toNat : Int)⟩ : Mk) = m
 rw [Int.toNat_of_nonneg (by omega), Int.toNat_of_nonneg (by omega)]
theorem head_name (m : Mk) (n : Nat) : (headB m n).take 8 = nameB := by
 have : headB m n = nameB ++ (numB 8 m.i.toNat ++ (numB 8 m.t.toNat ++ numB 8 n)) := by
  unfold headB
  simp only [List.append_assoc]
 rw [this]
 exact List.take_left' rfl
theorem readF_of {m : Mk} {u : Bytes} (hm : mkOk m) (hu : u.length ≤ 262144) : readF (snapB m u) = some (m, u) := by
 unfold readF
 rw [scan_snap]
 show (if (headB m u.length).take 8 = nameB ∧ mkOk (mkV (headB m u.length)) ∧ (pcs u.length u).flatten.length ≤ 262144 ∧ snapB (mkV (headB m u.length)) (pcs u.length u).flatten = snapB m u then some (mkV (headB m u.length), (pcs u.length u).flatten) else none) = _
 rw [mkV_head hm, pcs_flat _ _ (Nat.le_refl _), if_pos ⟨head_name _ _, hm, hu, rfl⟩]
theorem readF_part {m : Mk} {u : Bytes} (hu : u.length ≤ 1000000000) {k : Nat} (hk : k < (snapB m u).length) : readF ((snapB m u).take k) = none := by
 cases h : readF ((snapB m u).take k) with
 | none => rfl
 | some x =>
  obtain ⟨m', u'⟩ := x
  obtain ⟨hs, hm'⟩ := readF_snap h
  have hl := snapB_len m u
  have hl' := snapB_len m' u'
  have hlt : ((snapB m u).take k).length = k := by rw [List.length_take]; omega
  rw [hs, hl'] at hlt
  have e1 : (snapB m' u').take 44 = (snapB m u).take 44 := by
   rw [← hs, List.take_take, Nat.min_eq_left (by omega)]
  have t44 : ∀ (m : Mk) (u : Bytes), (snapB m u).take 44 = frameB (headB m u.length) := fun m u => by
   unfold snapB
   exact List.take_left' (by rw [frameB_length, headB_len])
  rw [t44, t44] at e1
  have f1 := frame_take (p := headB m' u'.length) (rest := []) (by rw [headB_len]; decide)
  have f2 := frame_take (p := headB m u.length) (rest := []) (by rw [headB_len]; decide)
  rw [e1, f2] at f1
  have e2 : headB m u.length = headB m' u'.length := congrArg Prod.fst f1
  have e3 : (headB m u.length).drop 24 = (headB m' u'.length).drop 24 := by rw [e2]
  have l8 : ∀ v : Nat, (numB 8 v).length = 8 := fun v => numB_length 8 v
  have d24 : ∀ (m : Mk) (n : Nat), (headB m n).drop 24 = numB 8 n := fun m n => by
   unfold headB
   exact List.drop_left' (by simp only [List.length_append, l8]; rfl)
  rw [d24, d24] at e3
  have hp8 : 256 ^ 8 = 18446744073709551616 := rfl
  have hu' : u'.length < 18446744073709551616 := by
   have hj : u'.length ≤ (joinF (pcs u'.length u')).length := join_ge _ _ (Nat.le_refl _)
   have hj2 := joinF_len u.length u (Nat.le_refl _)
   omega
  have e4 : u.length = u'.length := by
   rw [← numB_val 8 u.length (by omega), ← numB_val 8 u'.length (by omega), e3]
  have := pcs_len u.length u u' e4
  rw [e4] at this
  have e5 : (joinF (pcs u'.length u)).length = (joinF (pcs u.length u)).length := by rw [e4]
  omega
theorem part_bad {p : Bytes} (hp : p.length ≤ 4096) {k : Nat} (hk : k < p.length + 12) : (takeR ((frameB p).take k)).2.2 ≠ 0 := by
 intro h
 have hl := takeR_len h
 have hf := take_frame h
 have hfl := frameB_length p
 obtain ⟨q, hq⟩ : ∃ q, (takeR ((frameB p).take k)).1 = q := ⟨_, rfl⟩
 rw [hq] at hf hl
 rw [List.length_take] at hl
 rw [List.take_take, Nat.min_eq_left (by omega)] at hf
 have e1 : frameB p = frameB q ++ (frameB p).drop (takeR ((frameB p).take k)).2.1 := by
  rw [← hf, List.take_append_drop]
 have e2 := frame_take (p := q) (rest := (frameB p).drop (takeR ((frameB p).take k)).2.1) (by omega)
 rw [← e1] at e2
 have e3 := frame_take (p := p) (rest := []) hp
 rw [List.append_nil, e2] at e3
 have : q.length + 12 = p.length + 12 := congrArg (fun z => z.2.1) e3
 omega
theorem scan_take : ∀ (l : List Bytes) (k : Nat), (∀ p ∈ l, p.length ≤ 4096) → ∃ j, (scanR ((joinF l).take k)).1 = l.take j
 | [], k, _ => ⟨0, by
  have : (joinF []).take k = [] := by
   show ([] : Bytes).take k = []
   exact List.take_nil
  rw [this, scan_nil]
  rfl⟩
 | p :: l, k, h => by
  have hp := h p (List.mem_cons_self ..)
  have e : joinF (p :: l) = frameB p ++ joinF l := rfl
  have hl := frameB_length p
  by_cases hk : k < p.length + 12
  ·refine ⟨0, ?_⟩
   rw [e, List.take_append_of_le_length (by omega), scanR_bad (part_bad hp hk)]
   rfl
  ·obtain ⟨j, hj⟩ := scan_take l (k - (p.length + 12)) fun y hy => h y (List.mem_cons_of_mem _ hy)
   refine ⟨j + 1, ?_⟩
   have e2 : (joinF (p :: l)).take k = frameB p ++ (joinF l).take (k - (p.length + 12)) := by
    rw [e, List.take_append, List.take_of_length_le (by omega), hl]
   have hk2 := frame_take (rest := (joinF l).take (k - (p.length + 12))) hp
   rw [e2, scanR_ok (by rw [hk2]), hk2]
   show p :: (scanR ((frameB p ++ (joinF l).take (k - (p.length + 12))).drop (p.length + 12))).1 = _
   rw [List.drop_left' hl, hj]
   rfl
def Fine (s : Bytes) : Prop := 2 ≤ (scanR s).1.tail.length → 0 < (scanR s).1.tail.flatten.length
theorem fine_take (m : Mk) (u : Bytes) (k : Nat) : Fine ((snapB m u).take k) := by
 have hall : ∀ p ∈ headB m u.length :: pcs u.length u, p.length ≤ 4096 := fun p hp => by
  rcases List.mem_cons.1 hp with rfl | hp
  ·rw [headB_len]
   decide
  ·have := (pcs_le _ _ p hp).1
   omega
 obtain ⟨j, hj⟩ := scan_take (headB m u.length :: pcs u.length u) k hall
 have e : joinF (headB m u.length :: pcs u.length u) = snapB m u := rfl
 rw [e] at hj
 intro h
 rw [hj] at h ⊢
 cases j with
 | zero => cases h
 | succ j =>
  have e2 : ((headB m u.length :: pcs u.length u).take (j + 1)).tail = (pcs u.length u).take j := rfl
  rw [e2] at h ⊢
  cases hl : (pcs u.length u).take j with
  | nil => rw [hl] at h; cases h
  | cons p ps =>
   have hp : p ∈ pcs u.length u := List.mem_of_mem_take (by rw [hl]; exact List.mem_cons_self ..)
   have := List.length_pos_iff.2 (pcs_le _ _ p hp).2
   rw [List.flatten_cons, List.length_append]
   omega
theorem fine_snap (m : Mk) (u : Bytes) : Fine (snapB m u) := by
 have := fine_take m u (snapB m u).length
 rwa [List.take_length] at this
theorem scan_small : ∀ (m : Nat) (u : Bytes), u.length ≤ m → ∀ p ∈ (scanR u).1, p.length ≤ 4096
 | m, u, hm, p, hp => by
  by_cases he : (takeR u).2.2 = 0
  ·have hl := takeR_len he
   rw [scanR_ok he] at hp
   have hp : p ∈ (takeR u).1 :: (scanR (u.drop (takeR u).2.1)).1 := hp
   rcases List.mem_cons.1 hp with rfl | hp
   ·omega
   ·match m, hm with
    | 0, hm => omega
    | m + 1, hm => exact scan_small m (u.drop (takeR u).2.1) (by rw [List.length_drop]; omega) p hp
  ·rw [scanR_bad he] at hp
   cases hp
theorem scan_sum : ∀ (m : Nat) (u : Bytes), u.length ≤ m → (scanR u).1.flatten.length ≤ u.length
 | m, u, hm => by
  by_cases he : (takeR u).2.2 = 0
  ·have hl := takeR_len he
   rw [scanR_ok he]
   show ((takeR u).1 :: (scanR (u.drop (takeR u).2.1)).1).flatten.length ≤ _
   rw [List.flatten_cons, List.length_append]
   match m, hm with
   | 0, hm => omega
   | m + 1, hm =>
    have := scan_sum m (u.drop (takeR u).2.1) (by rw [List.length_drop]; omega)
    rw [List.length_drop] at this
    omega
  ·rw [scanR_bad he]
   exact Nat.zero_le _
def IAt (h : AHeap) (v : AV) (zs : List Int) : Prop := (v = .nsl ∧ zs = []) ∨ ∃ c, v = .sl c 0 zs.length 1 ∧ RowH h c 3 (zs.map (.int .i64)) ∧ c < h.next
theorem fitI : fitB Try.prog 3 8 = true := by kernel_rfl
theorem bldI1 (h : AHeap) (z : Int) : bldSl Try.prog h 44 1 [(0, .int .i64 z)] = outNewS h 3 [.int .i64 z] 1 1 := by kernel_rfl
section
variable {h h' : AHeap} {v : AV} {zs : List Int}
theorem IAt.tch {S : List Nat} (k : IAt h v zs) (t : Tch S h h') (hS : ∀ b ∈ blkV v, b ∉ S) : IAt h' v zs := by
 rcases k with k | ⟨c, rfl, h2, h3⟩
 ·exact .inl k
 ·exact .inr ⟨c, rfl, h2.tch t h3 (hS c (List.mem_singleton.2 rfl)), Nat.lt_of_lt_of_le h3 t.1⟩
theorem IAt.lt (k : IAt h v zs) : ∀ b ∈ blkV v, b < h.next := by
 rcases k with ⟨rfl, _⟩ | ⟨c, rfl, _, h3⟩
 ·exact fun b hb => (nomatch hb)
 ·intro b hb
  rw [List.mem_singleton.1 hb]
  exact h3
theorem IAt.len (k : IAt h v zs) : lenL v = some (zs.length : Int) := by
 rcases k with ⟨rfl, rfl⟩ | ⟨c, rfl, _⟩ <;> rfl
theorem IAt.at (k : IAt h v zs) {i : Nat} (hi : i < zs.length) : ∃ p, idxP 1 v (i : Int) = some p ∧ ldCell h p = some (.int .i64 zs[i]) := by
 rcases k with ⟨rfl, rfl⟩ | ⟨c, rfl, h2, _⟩
 ·exact absurd hi (Nat.not_lt_zero _)
 ·refine ⟨_, idxP_sl hi, RowH.cell' h2 ?_⟩
  rw [Nat.zero_add, Nat.mul_one, List.getElem?_map, List.getElem?_eq_getElem hi]
  rfl
theorem IAt.push {b1 : Nat} {z : Int} (k : IAt h v zs) (kr : RowH h b1 3 [.int .i64 z]) (hm : zs.length < 20000000) (hx : h.ex = [89]) :
  ∃ h' v', opAppend Try.prog h 44 44 v (.sl b1 0 1 1) = some (.val v', h') ∧ IAt h' v' (zs ++ [z]) ∧ Tch (blkV v) h h' ∧ blkV v' = [h.next] := by
 have he : Abs.elemOf Try.prog 44 = some 3 := by kernel_rfl
 have hu : notInt Try.prog 44 = true := by kernel_rfl
 have hsz : Try.prog.cellsOf 3 = 1 := by kernel_rfl
 have hex : memB 3 h.ex = false := by rw [hx]; rfl
 have el : zs.length + 1 = (zs ++ [z]).length := by rw [List.length_append, List.length_singleton]
 rcases k with ⟨rfl, rfl⟩ | ⟨b, rfl, h2, h3⟩
 ·have a1 := append_new (P := Try.prog) (h := h) (t := 44) (u := 44) (n := 0) (x := .sl b1 0 1 1) he hu hsz rfl (firstRow kr rfl) (bytesFit_of fitI (by omega) (by omega)) rfl hex
  exact ⟨_, _, a1, .inr ⟨h.next, rfl, RowH.new _ _ _, Nat.lt_succ_self _⟩, Tch.newH _ _ _ _, rfl⟩
 ·have hcl : (zs.map (AV.int .i64)).length = zs.length := List.length_map ..
  have a1 := append_more (P := Try.prog) (h := h) (t := 44) (u := 44) (b := b) (o := 0) (m := zs.length) (n := 0) (x := .sl b1 0 1 1) (cs := zs.map (.int .i64)) he hu hsz rfl (firstRow kr rfl) (bytesFit_of fitI (by omega) (by omega)) rfl hex (by
   have := h2.part (o := 0) (n := (zs.map (AV.int .i64)).length) (by omega)
   rw [List.drop_zero, List.take_length] at this
   rw [show zs.length * 1 = (zs.map (AV.int .i64)).length by omega]
   exact this) h2.type
  refine ⟨_, _, a1, .inr ⟨h.next, by rw [el], ?_, Nat.lt_succ_self _⟩, (Tch.put (S := [b]) (.inl (List.mem_singleton.2 rfl)) _).trans (Tch.newH _ _ _ _), rfl⟩
  rw [List.map_append]
  exact RowH.new (h.put b .dead) _ _
end
def filesL (s : DS) : Nat → List Int
 | 0 => []
 | k + 1 => if (s.fs k).seen.th = true then filesL s k ++ [(k : Int)] else filesL s k
theorem filesL_le (s : DS) : ∀ k, (filesL s k).length ≤ k
 | 0 => Nat.le_refl _
 | k + 1 => by
  have := filesL_le s k
  unfold filesL
  split
  ·rw [List.length_append, List.length_singleton]
   omega
  ·omega
section
variable {lo : Nat → Prop} {n d db rb B : Nat} {h : AHeap} {s : DS}
theorem files_loop {D : List AV} {vs : Nat → Nat → AV} {fs : Nat → FileS} {p : Int} {ops : Nat} (hfs : fs = s.fs) (K : DiskAt lo h db D fs vs p ops B) {k12 : AV → AHeap → R} {Q : ARes → AHeap → Prop}
  (hk : ∀ H v, Tch [] h H → IAt H v (filesL s 32) → (∀ b ∈ blkV v, h.next ≤ b) → Wp (k12 v H) Q) :
  ∀ (r i fu : Nat) (H : AHeap) (v : AV), r + i = 32 → r < fu → Tch [] h H → IAt H v (filesL s i) → (∀ b ∈ blkV v, h.next ≤ b) → Wp (disk_Disk_Files_L0 (.ptr db 0) k12 fu v (i : Int) H) Q
 | _, _, 0, _, _, _, hf, _, _, _ => by omega
 | 0, i, fu + 1, H, v, hi, _, t, k, hb => by
  obtain rfl : i = 32 := by omega
  rw [disk_Disk_Files_L0_s]
  unfold disk_Disk_Files_L0b
  refine Wp.lett (Wp.iff rfl ?_)
  exact hk H v t k hb
 | r + 1, i, fu + 1, H, v, hi, hf, t, k, hb => by
  have hi32 : i < 32 := by omega
  have KH := K.tch t (fun _ h => nomatch h)
  have C := KH.cells i hi32
  have hle := filesL_le s i
  have hn := t.1
  rw [disk_Disk_Files_L0_s]
  unfold disk_Disk_Files_L0b
  refine Wp.lett (Wp.ift (by rw [decide_eq_true_eq]; omega) (Wp.obind (nilC_ptr _ _) (Wp.obind (fldP_ptr _ _ _) (Wp.obind (idxF hi32) (Wp.obind (fldP_ptr _ _ _) (Wp.obind (fldP_ptr _ _ _) (Wp.obind (RowH.cell' KH.row C.c2) (Wp.obind (avBool_bool _) (Wp.lettG fun k32 e32 => ?_)))))))))
  rw [hfs]
  cases hth : (s.fs i).seen.th with
  | true =>
   have ef : filesL s (i + 1) = filesL s i ++ [(i : Int)] := if_pos hth
   refine Wp.ift rfl (Wp.mnews (Mem.nil [] H) (bldI1 _ _) rfl (by rw [KH.ex]; rfl) fun h2 M2 => ?_)
   have t2 := M2.tch
   have hn2 := t2.1
   obtain ⟨h3, v3, e3, k3, t3, b3⟩ := (k.tch t2 (fun _ _ h => nomatch h)).push M2.at0.1 (by omega) (by rw [t2.2.1, KH.ex])
   refine Wp.outK e3 ?_
   rw [e32]
   refine Wp.lettw (by omega) (by omega) ?_
   rw [show (i : Int) + 1 = ((i + 1 : Nat) : Int) by omega]
   refine files_loop hfs K hk r (i + 1) fu h3 v3 (by omega) (by omega) ((t.trans t2).trans' t3 fun b hbb => .inr (hb b hbb)) (by rw [ef]; exact k3) (fun b hbb => ?_)
   rw [b3] at hbb
   have := List.mem_singleton.1 hbb
   omega
  | false =>
   have ef : filesL s (i + 1) = filesL s i := if_neg (by rw [hth]; decide)
   refine Wp.iff rfl ?_
   rw [e32]
   refine Wp.lettw (by omega) (by omega) ?_
   rw [show (i : Int) + 1 = ((i + 1 : Nat) : Int) by omega]
   exact files_loop hfs K hk r (i + 1) fu H v (by omega) (by omega) t (by rw [ef]; exact k) hb
theorem files_a (K : At lo h db s B) (hn : 1000000 < n) : ∃ h' v, world n (d + 1) 17 [.ptr db 0] h = some (.ret v, h') ∧ Tch [] h h' ∧ IAt h' v (filesL s 32) ∧ ∀ b ∈ blkV v, h.next ≤ b := by
 suffices hK : Wp (world n (d + 1) 17 [.ptr db 0] h) fun r h' => ∃ v, r = .ret v ∧ Tch [] h h' ∧ IAt h' v (filesL s 32) ∧ ∀ b ∈ blkV v, h.next ≤ b by
  obtain ⟨_, h', e, v, rfl, k⟩ := hK
  exact ⟨h', v, e, k⟩
 obtain ⟨D, vs, K⟩ := K
 rw [w_disk_Disk_Files]
 unfold disk_Disk_Files
 refine Wp.outK (eqDisk db 0 h) (Wp.obind (avBool_bool _) (Wp.iff rfl (Wp.lettG fun k12 e12 => ?_)))
 refine files_loop (s := s) rfl K (fun H v t k hb => ?_) 32 0 n h .nsl rfl (by omega) (Tch.refl _ _) (.inl ⟨rfl, rfl⟩) (fun _ hb => nomatch hb)
 rw [e12]
 exact Wp.ret ⟨v, rfl, t, k, hb⟩
theorem on_b (K : At lo h db s B) : world n (d + 1) 59 [.ptr db 0] h = some (.ret (.bool (decide (s.p ≠ 0))), h) := by
 obtain ⟨D, vs, K⟩ := K
 exact on_w K
end
abbrev TMk : Nat := 39
def mkC (m : Mk) : List AV := [.int .i64 m.i, .int .i64 m.t]
section
variable {n d D : Nat} {h H : AHeap} {u s : Bytes} {m : Mk} {Q : ARes → AHeap → Prop}
theorem prefix_w (hs : s.length ≤ 1000000000) : world n (d + 2) 32 [strA s, strA nameB] H = some (.ret (.bool (decide (s.take 8 = nameB))), H) := by
 have e1 : world n (d + 1) 56 [strA s, strA nameB] H = some (.ret (.bool (decide (s.take 8 = nameB))), H) := by
  apply Wp.eq
  rw [w_internal_stringslite_HasPrefix]
  refine Wp.gc' ?_
  unfold internal_stringslite_HasPrefix
  have l1 := lenS_nat s
  have l2 : lenS nameB = 8 := rfl
  have hn8 : nameB.length = 8 := rfl
  refine Wp.lett (Wp.lettG fun j17 e17 => ?_)
  by_cases hc : 8 ≤ s.length
  ·have e2 : sliceS s 0 (lenS nameB) = some (s.take 8) := by
    rw [l2, sliceS_int (by omega) (by omega) (by omega)]
    rfl
   refine Wp.ift (by rw [decide_eq_true_eq]; omega) (Wp.obind e2 (Wp.lett ?_))
   rw [e17]
   have : eqS (s.take 8) nameB = decide (s.take 8 = nameB) := by
    by_cases h : s.take 8 = nameB
    ·rw [decide_eq_true h, eqS_true.2 h]
    ·rw [decide_eq_false h]
     cases hb : eqS (s.take 8) nameB with
     | false => rfl
     | true => exact absurd (eqS_true.1 hb) h
   rw [this]
   exact Wp.ret ⟨⟨rfl, rfl⟩, fun _ => ⟨rfl, rfl⟩⟩
  ·refine Wp.iff (by rw [decide_eq_false_iff_not]; omega) ?_
   have : ¬ s.take 8 = nameB := fun h => by
    have := congrArg List.length h
    rw [List.length_take, hn8] at this
    omega
   rw [e17, decide_eq_false this]
   exact Wp.ret ⟨⟨rfl, rfl⟩, fun _ => ⟨rfl, rfl⟩⟩
 apply Wp.eq
 rw [w_strings_HasPrefix]
 refine Wp.gc' ?_
 unfold strings_HasPrefix
 exact Wp.callN e1 (Wp.obind (avBool_bool _) (Wp.ret ⟨⟨rfl, rfl⟩, fun _ => ⟨rfl, rfl⟩⟩))
theorem chunk_w (hs : u.length ≤ 1000000000) : world n (d + 1) 37 [strA u] H = some (.ret (strA (u.take 2048)), H) := by
 apply Wp.eq
 rw [w_snap_chunk]
 refine Wp.gc' ?_
 unfold snap_chunk
 have ll := lenS_nat u
 have e : sliceS u 0 (if 2048 < lenS u then 2048 else lenS u) = some (u.take 2048) := by
  by_cases h : 2048 < u.length
  ·rw [if_pos (by omega), sliceS_int (by omega) (by omega) (by omega)]
   rfl
  ·rw [if_neg (by omega), ll, sliceS_int (by omega) (by omega) (by omega), List.take_of_length_le (by rw [List.length_drop]; omega), List.take_of_length_le (show u.length ≤ 2048 by omega)]
   rfl
 exact Wp.lett (Wp.obind e (Wp.ret ⟨⟨rfl, rfl⟩, fun _ => ⟨rfl, rfl⟩⟩))
theorem sframed_w (hn : 4096 < n) (hx : memB 5 H.ex = false) (hp : u.length ≤ 4096) : world n (d + 5) 65 [strA u] H = some (.ret (strA (frameB u)), H) := by
 have hp' := put_w (n := n) (d := d) (h := H) (p := u) hn hx
 rw [if_neg (by omega)] at hp'
 apply Wp.eq
 rw [w_snap_framed]
 refine Wp.gc' ?_
 unfold snap_framed
 exact Wp.callN hp' (Wp.obind (extT_0 _ _) (Wp.obind (avStr_str _) (Wp.obind (extT_1 _ _ _) (Wp.obind (avInt_int _ _) (Wp.ret ⟨⟨rfl, rfl⟩, fun _ => ⟨rfl, rfl⟩⟩)))))
theorem mark_w : world n (d + 1) 41 [.agg (mkC m)] H = some (.ret (.bool (decide (mkOk m))), H) := by
 apply Wp.eq
 rw [w_snap_markRight]
 refine Wp.gc ?_
 unfold snap_markRight
 refine Wp.mbox (Mem.nil [] H) rfl fun h2 M2 => ?_
 have k2 := M2.at0.1
 have A := M2.tch.above
 have g0 : (mkC m)[0 + 0]? = some (.int .i64 m.i) := rfl
 have g1 : (mkC m)[0 + 1]? = some (.int .i64 m.t) := rfl
 refine Wp.obind (fldP_ptr _ _ _) (Wp.obind (RowH.cell' k2 g0) (Wp.obind (avInt_int _ _) (Wp.lett (Wp.lettG fun j10 e10 => ?_))))
 have K10 : ∀ b : Bool, (b = true ↔ 1 ≤ m.i ∧ m.i ≤ 1048576) → Wp (j10 b h2) fun r H' => Above H H' ∧ r.val.scal = true ∧ r = ARes.ret (.bool (decide (mkOk m))) ∧ H = H := fun b hb => by
  rw [e10]
  refine Wp.lettG fun j15 e15 => ?_
  have K15 : ∀ b : Bool, (b = true ↔ (1 ≤ m.i ∧ m.i ≤ 1048576) ∧ 0 ≤ m.t) → Wp (j15 b h2) fun r H' => Above H H' ∧ r.val.scal = true ∧ r = ARes.ret (.bool (decide (mkOk m))) ∧ H = H := fun b hb => by
   rw [e15]
   refine Wp.lettG fun j20 e20 => ?_
   have K20 : ∀ b : Bool, (b = true ↔ mkOk m) → Wp (j20 b h2) fun r H' => Above H H' ∧ r.val.scal = true ∧ r = ARes.ret (.bool (decide (mkOk m))) ∧ H = H := fun b hb => by
    rw [e20]
    have : b = decide (mkOk m) := by
     cases b with
     | true => exact (decide_eq_true (hb.1 rfl)).symm
     | false => exact (decide_eq_false fun h => nomatch (hb.2 h)).symm
    rw [← this]
    exact Wp.ret ⟨A, rfl, rfl, rfl⟩
   cases b with
   | false => exact Wp.iff rfl (K20 false ⟨(fun h => nomatch h), fun h => nomatch (hb.2 h.1)⟩)
   | true => exact Wp.ift rfl (Wp.obind (fldP_ptr _ _ _) (Wp.obind (RowH.cell' k2 g1) (Wp.obind (avInt_int _ _) (Wp.lett (K20 _ ⟨fun h => ⟨hb.1 rfl, of_decide_eq_true h⟩, fun h => decide_eq_true h.2⟩)))))
  cases b with
  | false => exact Wp.iff rfl (K15 false ⟨(fun h => nomatch h), fun h => nomatch (hb.2 h.1)⟩)
  | true => exact Wp.ift rfl (Wp.obind (fldP_ptr _ _ _) (Wp.obind (RowH.cell' k2 g1) (Wp.obind (avInt_int _ _) (Wp.lett (K15 _ ⟨fun h => ⟨hb.1 rfl, of_decide_eq_true h⟩, fun h => decide_eq_true h.2⟩)))))
 by_cases c1 : m.i ≥ 1
 ·exact Wp.ift (decide_eq_true c1) (Wp.obind (fldP_ptr _ _ _) (Wp.obind (RowH.cell' k2 g0) (Wp.obind (avInt_int _ _) (Wp.lett (K10 _ ⟨fun h => ⟨c1, of_decide_eq_true h⟩, fun h => decide_eq_true h.2⟩)))))
 ·exact Wp.iff (decide_eq_false c1) (K10 false ⟨(fun h => nomatch h), fun h => absurd h.1 c1⟩)
def BuK (h0 H : AHeap) (b : Nat) (l : Bytes) : Prop := ∃ c, BldW H b c l ∧ h0.next ≤ b ∧ h0.next ≤ c ∧ Tch [] h0 H
theorem BuK.write (k : BuK h H D u) (hx : h.ex = [89]) (hbig : u.length + s.length ≤ 1000000000) : ∃ H', world n (d + 2) 34 [.ptr D 0, strA s] H = some (.ret (.tup [.int .i64 (lenS s), .nifc]), H') ∧ BuK h H' D (u ++ s) := by
 obtain ⟨c, k1, k2, k3, T⟩ := k
 have eX : H.ex = [89] := by rw [T.2.1, hx]
 obtain ⟨c', H', e, k', hc, t⟩ := writeString_r (n := n) (d := d) k1 (by rw [eX]; rfl) (by rw [eX]; rfl) s hbig
 have nT := T.1
 refine ⟨H', e, c', k', k2, by omega, T.trans' t fun b hb => .inr ?_⟩
 rcases List.mem_cons.1 hb with rfl | hb
 ·exact k2
 ·rw [List.mem_singleton.1 hb]
  exact k3
theorem BuK.string (k : BuK h H D u) (hbig : u.length ≤ 1000000000) : ∃ H', world n (d + 1) 36 [.ptr D 0] H = some (.ret (strA u), H') ∧ Tch [] h H' := by
 obtain ⟨c, k1, k2, k3, T⟩ := k
 obtain ⟨H', e, t⟩ := string_r (n := n) (d := d) k1 hbig
 refine ⟨H', e, T.trans' t fun b hb => .inr ?_⟩
 rcases List.mem_cons.1 hb with rfl | hb
 ·exact k2
 ·rw [List.mem_singleton.1 hb]
  exact k3
theorem bytesOf_loop {h_2 : AHeap} {bb : Nat} (hb : h_2.next = bb) (hn : 4096 < n) (hx : h.ex = [89]) {total : Bytes} (ht : total.length ≤ 100000000) {k37 : AHeap → R} (hk : ∀ H, BuK h H bb total → Wp (k37 H) Q) :
  ∀ (fu : Nat) (u l : Bytes) (H : AHeap), u.length < fu → BuK h H bb l → l ++ joinF (pcs u.length u) = total → Wp (snap_bytesOf_L0 (world n (d + 5)) h_2 k37 fu u H) Q
 | 0, _, _, _, hf, _, _ => by omega
 | fu + 1, u, l, H, hf, k, he => by
  rw [snap_bytesOf_L0_s]
  unfold snap_bytesOf_L0b
  by_cases hu : u = []
  ·subst hu
   refine Wp.lett (Wp.iff (by rw [eqS_true.2 rfl]; rfl) (hk H ?_))
   have : l = total := by rw [← he]; exact (List.append_nil l).symm
   rw [← this]
   exact k
  ·have hlen := List.length_pos_iff.2 hu
   have hT : Tch [] h H := by
    obtain ⟨_, _, _, _, T⟩ := k
    exact T
   have eX : H.ex = [89] := by rw [hT.2.1, hx]
   have hst := pcs_step hu
   rw [hst] at he
   have he : l ++ (frameB (u.take 2048) ++ joinF (pcs (u.drop 2048).length (u.drop 2048))) = total := he
   have hge := join_ge u.length u (Nat.le_refl _)
   have hbig : l.length + (frameB (u.take 2048)).length ≤ total.length := by
    rw [← he]
    simp only [List.length_append]
    omega
   have hul : u.length ≤ 1000000000 := by
    have h1 : (joinF (pcs u.length u)).length ≤ total.length := by
     rw [← he, hst]
     show (frameB (u.take 2048) ++ joinF (pcs (u.drop 2048).length (u.drop 2048))).length ≤ _
     simp only [List.length_append]
     omega
    omega
   obtain ⟨H2, e2, k2⟩ := k.write (n := n) (d := d + 3) (s := frameB (u.take 2048)) hx (by omega)
   have hne : (!eqS u []) = true := by
    cases hb : eqS u [] with
    | false => rfl
    | true => exact absurd (eqS_true.1 hb) hu
   have ll := lenS_nat u
   have lt := lenS_nat (u.take 2048)
   have hsl : sliceS u (lenS (u.take 2048)) (lenS u) = some (u.drop 2048) := by
    by_cases h : 2048 ≤ u.length
    ·have : (u.take 2048).length = 2048 := by rw [List.length_take]; omega
     rw [lt, ll, this, sliceS_int (by omega) (by omega) (by omega), List.take_of_length_le (by rw [List.length_drop]; omega)]
     rfl
    ·have h1 : u.take 2048 = u := List.take_of_length_le (by omega)
     have h2 : u.drop 2048 = [] := List.drop_of_length_le (by omega)
     rw [h1, h2, ll, sliceS_int (by omega) (by omega) (by omega)]
     simp
   rw [newP_eq h_2, hb]
   refine Wp.lett (Wp.ift hne (Wp.callN (chunk_w (n := n) (d := d + 4) hul) (Wp.obind (avStr_str _) (Wp.callN (sframed_w (n := n) (d := d) hn (by rw [eX]; rfl) (by rw [List.length_take]; omega)) (Wp.obind (avStr_str _) (Wp.callN e2 (Wp.obind hsl ?_)))))))
   exact bytesOf_loop hb hn hx ht hk fu (u.drop 2048) (l ++ frameB (u.take 2048)) H2 (by rw [List.length_drop]; omega) k2 (by rw [List.append_assoc]; exact he)
theorem bytesOf_w (hn : 1000000 < n) (hx : h.ex = [89]) (hm : mkOk m) (hu : u.length ≤ 600000) : world n (d + 6) 43 [.agg (mkC m), strA u] h = some (.ret (strA (snapB m u)), h) := by
 apply Wp.eq
 rw [w_snap_bytesOf]
 refine Wp.gc ?_
 unfold snap_bytesOf
 obtain ⟨⟨⟨h1, h2⟩, h3⟩, h4⟩ := hm
 refine Wp.mbox (Mem.nil [] h) rfl fun g2 M2 => Wp.lettG fun g5 e5 => ?_
 have t2 := M2.tch
 have km2 := M2.at0.1
 have l2 := M2.at0.2.1
 have t5 : Tch [] g2 g5 := by rw [e5]; exact Tch.newH _ _ _ _
 have kb : BldW g5 g2.next g2.next [] := by rw [e5]; exact BldR.new TBld TU8 g2
 have T5 := t2.trans t5
 have km5 := km2.tch t5 l2 (fun h => nomatch h)
 have n2 := t2.1
 have k5 : BuK h g5 g2.next [] := ⟨g2.next, kb, by omega, by omega, T5⟩
 have eX : g5.ex = [89] := by rw [T5.2.1, hx]
 have hu8 : memB 5 g5.ex = false := by rw [eX]; rfl
 have g0 : (mkC m)[0 + 0]? = some (.int .i64 m.i) := rfl
 have g1 : (mkC m)[0 + 1]? = some (.int .i64 m.t) := rfl
 have ll := lenS_nat u
 have u1 := u64_w (n := n) (d := d + 3) (h := g5) (v := m.i.toNat) (by omega) (by omega) hu8
 have u2 := u64_w (n := n) (d := d + 3) (h := g5) (v := m.t.toNat) (by omega) (by omega) hu8
 have u3 := u64_w (n := n) (d := d + 3) (h := g5) (v := u.length) (by omega) (by omega) hu8
 rw [Int.toNat_of_nonneg (by omega)] at u1 u2
 rw [← ll] at u3
 have l8 : ∀ v : Nat, (numB 8 v).length = 8 := fun v => numB_length 8 v
 refine Wp.obind (fldP_ptr _ _ _) (Wp.obind (RowH.cell' km5 g0) (Wp.obind (avInt_int _ _) (Wp.lettu64 (by omega) (by omega) (Wp.obind (fldP_ptr _ _ _) (Wp.obind (RowH.cell' km5 g1) (Wp.obind (avInt_int _ _) (Wp.lettu64 (by omega) (by omega) (Wp.lettu64 (by omega) (by omega) ?_))))))))
 refine Wp.callN u1 (Wp.obind (avStr_str _) (Wp.chk (and_t (reLoad_c (by kernel_rfl) (RowH.cell' km5 g1)) rfl) (Wp.obind (addS_val (by rw [l8]; decide)) (Wp.callN u2 (Wp.obind (avStr_str _) (Wp.obind (addS_val (by rw [List.length_append, l8, l8]; decide)) (Wp.callN u3 (Wp.obind (avStr_str _) (Wp.obind (addS_val (by rw [List.length_append, List.length_append, l8, l8, l8]; decide)) ?_)))))))))
 have hhead : ([115, 110, 97, 112, 115, 104, 111, 116] : Bytes) ++ numB 8 m.i.toNat ++ numB 8 m.t.toNat ++ numB 8 u.length = headB m u.length := rfl
 rw [hhead]
 obtain ⟨g8, e8, k8⟩ := k5.write (n := n) (d := d + 3) (s := frameB (headB m u.length)) hx (by rw [frameB_length, headB_len]; decide)
 have hj := joinF_len u.length u (Nat.le_refl _)
 have hsl := snapB_len m u
 rw [newP_eq g2]
 refine Wp.callN (sframed_w (n := n) (d := d) (by omega) hu8 (by rw [headB_len]; decide)) (Wp.obind (avStr_str _) (Wp.callN e8 (Wp.lettG fun k37 e37 => ?_)))
 refine bytesOf_loop (d := d) (h := h) (total := snapB m u) rfl (by omega) hx (by omega) (fun H1 k1 => ?_) n u _ g8 (by omega) k8 rfl
 obtain ⟨H2, e2, T2⟩ := k1.string (n := n) (d := d + 4) (by omega)
 rw [e37]
 exact Wp.callN e2 (Wp.obind (avStr_str _) (Wp.ret ⟨T2.above, rfl, rfl, rfl⟩))
end
abbrev TBs : Nat := 46
def SlT (H : AHeap) (v : AV) (l : List Bytes) : Prop := (v = .esl ∧ l = []) ∨ ∃ (c o : Nat) (all : List Bytes), v = .sl c o l.length 1 ∧ RowH H c TStr (all.map strA) ∧ c < H.next ∧ o + l.length ≤ all.length ∧ (all.drop o).take l.length = l
section
variable {n d D b c : Nat} {h H H' : AHeap} {u s : Bytes} {l : List Bytes} {v : AV} {Q : ARes → AHeap → Prop}
theorem SlT.tch {S : List Nat} (k : SlT H v l) (t : Tch S H H') (hS : ∀ b ∈ blkV v, b ∉ S) : SlT H' v l := by
 rcases k with k | ⟨c, o, all, rfl, h2, h3, h4⟩
 ·exact .inl k
 ·exact .inr ⟨c, o, all, rfl, h2.tch t h3 (hS c (List.mem_singleton.2 rfl)), Nat.lt_of_lt_of_le h3 t.1, h4⟩
theorem SlT.lt (k : SlT H v l) : ∀ b ∈ blkV v, b < H.next := by
 rcases k with ⟨rfl, _⟩ | ⟨c, o, all, rfl, _, h3, _⟩
 ·exact fun b hb => nomatch hb
 ·intro b hb
  rw [List.mem_singleton.1 hb]
  exact h3
theorem SlT.len (k : SlT H v l) : lenL v = some (l.length : Int) := by
 rcases k with ⟨rfl, rfl⟩ | ⟨c, o, all, rfl, _⟩ <;> rfl
theorem SlT.at (k : SlT H v l) {i : Nat} (hi : i < l.length) : ∃ p, idxP 1 v (i : Int) = some p ∧ ldCell H p = some (strA l[i]) := by
 rcases k with ⟨_, rfl⟩ | ⟨c, o, all, rfl, h2, _, h4, h5⟩
 ·cases hi
 ·refine ⟨.ptr c (o + i * 1), ?_, ?_⟩
  ·exact idxP_sl hi
  ·refine RowH.cell' h2 ?_
   have e : (l[i]? : Option Bytes) = some l[i] := List.getElem?_eq_getElem hi
   have e2 : l[i]? = all[o + i]? := by
    conv => lhs; rw [← h5]
    rw [List.getElem?_take, if_pos (by omega), List.getElem?_drop]
   rw [show o + i * 1 = o + i by omega, List.getElem?_map, ← e2, e]
   rfl
theorem SlT.tail (k : SlT H v l) (h0 : l ≠ []) : ∃ v', (∀ H : AHeap, sliceA Try.prog H TStrs v (some (.int .i64 1)) none = some (.val v', H)) ∧ SlT H v' l.tail ∧ ∀ b ∈ blkV v', b ∈ blkV v := by
 rcases k with ⟨_, rfl⟩ | ⟨c, o, all, rfl, h2, h3, h4, h5⟩
 ·exact absurd rfl h0
 ·have hl := List.length_pos_iff.2 h0
  have he : Abs.elemOf Try.prog TStrs = some TStr := by kernel_rfl
  have hi : (Try.prog.info? TStr).isSome = true := by kernel_rfl
  have hsz : Try.prog.cellsOf TStr = 1 := by kernel_rfl
  by_cases h1 : l.length = 1
  ·have e := fun H : AHeap => slice_end (P := Try.prog) (h := H) (t := TStrs) (b := c) (o := o) (m := l.length) (k1 := .i64) he hi hsz (by omega)
   refine ⟨.esl, fun H => by have e := e H; rw [h1] at e ⊢; exact e, .inl ⟨rfl, ?_⟩, fun b hb => nomatch hb⟩
   exact List.length_eq_zero_iff.1 (by rw [List.length_tail]; omega)
  ·have e := fun H : AHeap => slice_from (P := Try.prog) (h := H) (t := TStrs) (b := c) (o := o) (m := l.length) (k1 := .i64) (l1 := 1) he hi hsz (by omega) (by omega)
   refine ⟨_, e, .inr ⟨c, o + 1, all, by rw [List.length_tail], h2, h3, by rw [List.length_tail]; omega, ?_⟩, fun b hb => hb⟩
   rw [List.length_tail]
   have : l.tail = ((all.drop o).take l.length).tail := by rw [h5]
   rw [this, ← List.drop_one, List.drop_take, List.drop_drop]
def BG (h : AHeap) (b c : Nat) (l : Bytes) : Prop := ∃ a, RowH h b TBld [a, .sl c 0 l.length 1] ∧ b < h.next ∧ (a = .nilp ∨ a = .ptr b 0) ∧ c ≠ b ∧ c < h.next ∧ rowGet h c 0 l.length = some (bytesC l) ∧ rowType h c = some TU8
theorem rowG_tch {S : List Nat} {c m : Nat} {r : List AV} {e : TypeId} (h1 : rowGet H c 0 m = some r) (h2 : rowType H c = some e) (t : Tch S H H') (hc : c < H.next) (hS : c ∉ S) : rowGet H' c 0 m = some r ∧ rowType H' c = some e := by
 have hg := t.2.2 c hc hS
 unfold rowGet rowType at *
 rw [hg]
 exact ⟨h1, h2⟩
theorem ccheck_r {a buf : AV} (k : RowH h b TBld [a, buf]) (ha : a = .nilp ∨ a = .ptr b 0) (hx : memB TBld h.ex = true) : ∃ h', world n (d + 1) 57 [.ptr b 0] h = some (.ret (.tup []), h') ∧ RowH h' b TBld [.ptr b 0, buf] ∧ Tch [b] h h' := by
 suffices hK : Wp (world n (d + 1) 57 [.ptr b 0] h) fun r h' => r = .ret (.tup []) ∧ RowH h' b TBld [.ptr b 0, buf] ∧ Tch [b] h h' by
  obtain ⟨_, h', e, rfl, q⟩ := hK
  exact ⟨h', e, q⟩
 rw [w_strings_Builder_copyCheck]
 unfold strings_Builder_copyCheck
 refine Wp.obind (nilC_ptr _ _) (Wp.obind (fldP_ptr _ _ _) (Wp.obind (RowH.cell' k rfl) ?_))
 rcases ha with rfl | rfl
 ·have k1' := k
  obtain ⟨t, g1, _⟩ := k1'
  refine Wp.outK (eql_nil_nil h) (Wp.obind (avBool_bool _) (Wp.lettG fun k8 e8 => Wp.ift rfl (Wp.outK (conv_there g1) (Wp.outK (noEscape_ptr h b) (Wp.outK (conv_back g1 hx) (Wp.obind (nilC_ptr _ _) (Wp.obind (fldP_ptr _ _ _) (Wp.st1 k (show 0 + 0 < 2 by decide) rfl fun h' q1 q2 q3 => ?_))))))))
  rw [e8]
  exact Wp.ret ⟨rfl, q1, q2⟩
 ·refine Wp.outK (eql_ptr_nil h b) (Wp.obind (avBool_bool _) (Wp.lettG fun k8 e8 => Wp.iff rfl (Wp.obind (nilC_ptr _ _) (Wp.obind (fldP_ptr _ _ _) (Wp.obind (RowH.cell' k rfl) (Wp.outK ((binV_same _ _ _ _ _ _ _ _).trans (neq_same h b)) (Wp.obind (avBool_bool _) (Wp.iff rfl ?_))))))))
  rw [e8]
  exact Wp.ret ⟨rfl, k, Tch.refl _ _⟩
theorem appG (k : BG h b c u) (hu : memB TU8 h.ex = false) (s : Bytes) (hbig : u.length + s.length ≤ 1000000000) : ∃ c' h', opAppend Try.prog h TBs 9 (.sl c 0 u.length 1) (strA s) = some (.val (.sl c' 0 (u ++ s).length 1), h') ∧ (c' = c ∨ h.next ≤ c') ∧ c' < h'.next ∧ rowGet h' c' 0 (u ++ s).length = some (bytesC (u ++ s)) ∧ rowType h' c' = some TU8 ∧ Tch [c] h h' := by
 have he : Abs.elemOf Try.prog TBs = some TU8 := by kernel_rfl
 have hun : notInt Try.prog 9 = true := by kernel_rfl
 have hsz : Try.prog.cellsOf TU8 = 1 := by kernel_rfl
 have hfit : fitB Try.prog TU8 1 = true := by kernel_rfl
 obtain ⟨a, _, _, _, hcb, hc, hg, ht⟩ := k
 cases s with
 | nil =>
  have h0 : lenA (strA []) = some 0 := rfl
  have hlen : lenA (.sl c 0 u.length 1) = some u.length := rfl
  have hf : firstA h 1 0 (strA []) = some [] := firstA_str []
  have hl0 : u.length ≤ 1000000000 := by simpa using hbig
  have hfit2 := bytesFit_of (P := Try.prog) (e := TU8) (B := 1) (k := u.length + 0) hfit (by omega) (by omega)
  have hap : appendA h TU8 1 (.sl c 0 u.length 1) [] 0 = some (.val (.sl c 0 u.length 1), h) := rfl
  refine ⟨c, h, ?_, .inl rfl, hc, by rw [List.append_nil]; exact hg, ht, Tch.refl _ _⟩
  rw [List.append_nil]
  unfold notInt at hun
  unfold opAppend
  split at hun
  ·cases hun
  ·rename_i ud hni heq
   simp only [he, hlen, h0, heq, hsz, hf, hfit2, hu, List.all_nil, and_self, if_true]
   exact hap
  ·cases hun
 | cons y s =>
  have e2 := append_more (P := Try.prog) (h := h) (t := TBs) (u := 9) (b := c) (o := 0) (m := u.length) (x := strA (y :: s)) (n := s.length) (cs := bytesC u) he hun hsz rfl (firstA_str (h := h) (y :: s)) (bytesFit_of hfit (by simp at hbig; omega) (by simp at hbig; omega)) (bytesC_one _) hu (by rw [Nat.mul_one]; exact hg) ht
  have t1 : Tch [c] h (h.put c .dead) := Tch.put (.inl (by simp)) _
  have hr : RowH (newH (h.put c .dead) TU8 (bytesC (u ++ y :: s))) h.next TU8 (bytesC (u ++ y :: s)) := RowH.new (h.put c .dead) TU8 _
  have hpt := hr.part (o := 0) (n := (bytesC (u ++ y :: s)).length) (by omega)
  rw [List.drop_zero, List.take_length, bytesC_length] at hpt
  rw [bytesC_append] at hpt hr
  refine ⟨h.next, _, ?_, .inr (Nat.le_refl _), Nat.lt_succ_self _, ?_, hr.type, t1.trans (Tch.new _ _ _)⟩
  ·rw [List.length_append]
   exact e2
  ·rw [bytesC_append]
   exact hpt
theorem writeG (k : BG h b c u) (hx : memB TBld h.ex = true) (hu : memB TU8 h.ex = false) (s : Bytes) (hbig : u.length + s.length ≤ 1000000000) :
  ∃ c' h', world n (d + 2) 34 [.ptr b 0, strA s] h = some (.ret (.tup [.int .i64 (lenS s), .nifc]), h') ∧ BG h' b c' (u ++ s) ∧ (c' = c ∨ h.next ≤ c') ∧ Tch [b, c] h h' := by
 obtain ⟨a, k1, hb, ha, hcb, hc, hg, ht⟩ := id k
 obtain ⟨h1, e1, q1, t1⟩ := ccheck_r (n := n) (d := d) k1 ha hx
 have n1 := t1.1
 have hc1 : c ∉ [b] := fun h => hcb (List.mem_singleton.1 h)
 obtain ⟨g1, g2⟩ := rowG_tch hg ht t1 hc hc1
 obtain ⟨c', h2, a1, a2, a3, a4, a5, a6⟩ := appG (h := h1) (b := b) ⟨_, q1, by omega, .inr rfl, hcb, by omega, g1, g2⟩ (by rw [t1.2.1]; exact hu) s hbig
 have n2 := a6.1
 have q2 := q1.tch a6 (by omega) (fun h => hcb (List.mem_singleton.1 h).symm)
 suffices hK : Wp (world n (d + 2) 34 [.ptr b 0, strA s] h) fun r h' => r = .ret (.tup [.int .i64 (lenS s), .nifc]) ∧ BG h' b c' (u ++ s) ∧ (c' = c ∨ h.next ≤ c') ∧ Tch [b, c] h h' by
  obtain ⟨_, h', e, rfl, q⟩ := hK
  exact ⟨c', h', e, q⟩
 rw [w_strings_Builder_WriteString]
 unfold strings_Builder_WriteString
 refine Wp.callN e1 (Wp.obind (nilC_ptr _ _) (Wp.obind (fldP_ptr _ _ _) (Wp.obind (RowH.cell' q1 rfl) (Wp.outK a1 (Wp.obind (nilC_ptr _ _) (Wp.obind (fldP_ptr _ _ _) ?_))))))
 have hcb' : c' ≠ b := by omega
 refine Wp.st1 q2 (show 0 + 1 < 2 by decide) rfl fun h3 r1 r2 r3 => ?_
 obtain ⟨g3, g4⟩ := rowG_tch a4 a5 r2 a3 (fun h => hcb' (List.mem_singleton.1 h))
 exact Wp.ret ⟨rfl, ⟨_, r1, by omega, .inr rfl, hcb', by omega, g3, g4⟩, by omega, (t1.mono (by simp)).trans ((a6.mono (by simp)).trans (r2.mono (by simp)))⟩
theorem stringG (k : BG h b c u) (h0 : u ≠ []) (hbig : u.length ≤ 1000000000) : ∃ h', world n (d + 1) 36 [.ptr b 0] h = some (.ret (strA u), h') ∧ Tch [b, c] h h' := by
 obtain ⟨a, k1, hb, ha, hcb, hc, hg, ht⟩ := k
 apply Wp.ex
 rw [w_strings_Builder_String]
 unfold strings_Builder_String
 have d1 : opSliceData h (.sl c 0 u.length 1) = some (.val (.ptr c 0), h) := by
  cases u with
  | nil => exact absurd rfl h0
  | cons x l => rfl
 refine Wp.obind (nilC_ptr _ _) (Wp.obind (fldP_ptr _ _ _) (Wp.obind (RowH.cell' k1 rfl) (Wp.obind (nilC_ptr _ _) (Wp.obind (fldP_ptr _ _ _) (Wp.obind (RowH.cell' k1 rfl) (Wp.obind (show lenL (.sl c 0 u.length 1) = some (u.length : Int) from rfl) (Wp.outK d1 ?_)))))))
 refine Wp.chk (by rw [reLoad_cell (P := Try.prog) (ty := TBs) (by kernel_rfl) (k1.cell' rfl) (same_sl _ _ _ _)]; rfl) (Wp.outK (unsafeStr_row (by kernel_rfl) h0 hbig hg ht) (Wp.obind (avStr_str _) (Wp.ret ⟨rfl, Tch.put (.inl (by simp)) _⟩)))
end
theorem head_flat : ∀ (l : List Bytes) (h : 0 < l.length), l.flatten = l[0] ++ l.tail.flatten
 | _ :: _, _ => List.flatten_cons
theorem one_flat : ∀ (l : List Bytes) (h : l.length = 1), l.flatten = l[0]'(by omega)
 | [x], _ => by simp
theorem capNil (h : AHeap) : builtinA Try.prog .cap #[TBs] [.nsl] h = some (.val (.int .i64 0), h) := by kernel_rfl
theorem makeNo {h : AHeap} (m : Nat) (hm : m ≤ 1000000000) (hu : memB TU8 h.ex = false) : externM Try.prog h 76 [.int .i64 (m : Int)] = some (.val (.sl h.next 0 m 1), h.new (rowOf [] TU8)) := by
 have e : externM Try.prog h 76 [.int .i64 (Int.ofNat m)] = if Nat.ble m 1000000000 = true ∧ memB TU8 h.ex = false then some (.val (.sl h.next 0 m 1), h.new (rowOf [] TU8)) else none := by kernel_rfl
 exact e.trans (if_pos ⟨Nat.ble_eq_true_of_le hm, hu⟩)
theorem copy0 {h : AHeap} {c : Nat} (hg : h.get c = some (rowOf [] TU8)) : ∃ h', opCopy Try.prog h TBs (.sl c 0 0 1) .nsl = some (.val (.int .i64 0), h') ∧ Tch [c] h h' ∧ h'.next = h.next ∧ rowGet h' c 0 0 = some [] ∧ rowType h' c = some TU8 := by
 have e : opCopy Try.prog h TBs (.sl c 0 0 1) .nsl = (match rowPut h c 0 [] with
  | some h => some (.val (.int .i64 ((Nat.min 0 0 : Nat) : Int)), h)
  | none => none) := by kernel_rfl
 have e2 : rowPut h c 0 [] = some (h.put c (.row 0 (T.put (T.put .e 0 []) 0 []) TU8)) := by
  unfold rowPut
  rw [hg]
  rfl
 refine ⟨_, by rw [e, e2]; rfl, Tch.put (.inl (List.mem_singleton.2 rfl)) _, rfl, ?_, ?_⟩
 ·unfold rowGet
  rw [get_put_same]
  rfl
 ·unfold rowType
  rw [get_put_same]
section
variable {n d D b c : Nat} {h H H' : AHeap} {u s : Bytes} {l : List Bytes} {v : AV} {Q : ARes → AHeap → Prop}
theorem grow_w {a : AV} {m : Nat} (k : RowH h b TBld [a, .nsl]) (hb : b < h.next) (ha : a = .nilp ∨ a = .ptr b 0) (hm : m ≤ 1000000000) (hu : memB TU8 h.ex = false) : ∃ c h', world n (d + 1) 58 [.ptr b 0, .int .i64 (m : Int)] h = some (.ret (.tup []), h') ∧ BG h' b c [] ∧ h.next ≤ c ∧ Tch [b] h h' := by
 suffices hK : Wp (world n (d + 1) 58 [.ptr b 0, .int .i64 (m : Int)] h) fun r h' => ∃ c, r = .ret (.tup []) ∧ BG h' b c [] ∧ h.next ≤ c ∧ Tch [b] h h' by
  obtain ⟨_, h', e, c, rfl, q⟩ := hK
  exact ⟨c, h', e, q⟩
 rw [w_strings_Builder_grow]
 unfold strings_Builder_grow
 have rl : reLoad Try.prog h TBs (.ptr b (0 + 1)) .nsl = true := reLoad_cell (P := Try.prog) (ty := TBs) (by kernel_rfl) (k.cell' rfl) same_nsl
 obtain ⟨h1, hh1⟩ : ∃ h1, h1 = h.new (rowOf [] TU8) := ⟨_, rfl⟩
 have t1 : Tch [] h h1 := by rw [hh1]; exact Tch.new _ _ _
 have g1 : h1.get h.next = some (rowOf [] TU8) := by rw [hh1]; exact T.get_set_same _ _ _
 have n1 : h1.next = h.next + 1 := by rw [hh1]; rfl
 have k1 := k.tch t1 hb (fun h => nomatch h)
 have em := makeNo (h := h) m hm hu
 rw [← hh1] at em
 have rl1 : reLoad Try.prog h1 TBs (.ptr b (0 + 1)) .nsl = true := reLoad_cell (P := Try.prog) (ty := TBs) (by kernel_rfl) (k1.cell' rfl) same_nsl
 obtain ⟨h2, e2, t2, n2, g2, g3⟩ := copy0 g1
 have k2 := k1.tch t2 (by omega) (fun h => by have := List.mem_singleton.1 h; omega)
 have es : sliceA Try.prog h1 TBs (.sl h.next 0 m 1) none (some (.int .i64 ((0 : Nat) : Int))) = some (.val (.sl h.next 0 0 1), h1) := slice_to (e := TU8) (by kernel_rfl) (by kernel_rfl) (by kernel_rfl) (Nat.zero_le _)
 refine Wp.obind (nilC_ptr _ _) (Wp.obind (fldP_ptr _ _ _) (Wp.obind (RowH.cell' k rfl) (Wp.obind (nilC_ptr _ _) (Wp.obind (fldP_ptr _ _ _) (Wp.obind (RowH.cell' k rfl) (Wp.obind (show lenL .nsl = some 0 from rfl) (Wp.outK (capNil h) (Wp.obind (avInt_int _ _) (Wp.chk (and_t rl rfl) (Wp.lettw (by omega) (by omega) (Wp.lettw (by omega) (by omega) ?_)))))))))))
 rw [show (2 : Int) * 0 + (m : Int) = (m : Int) by omega]
 refine Wp.outK em (Wp.chk (and_t rl1 rfl) (Wp.outK es (Wp.obind (nilC_ptr _ _) (Wp.obind (fldP_ptr _ _ _) (Wp.obind (RowH.cell' k1 rfl) (Wp.outK e2 (Wp.obind (avInt_int _ _) (Wp.obind (nilC_ptr _ _) (Wp.obind (fldP_ptr _ _ _) ?_))))))))) 
 refine Wp.st1 k2 (show 0 + 1 < 2 by decide) rfl fun h3 r1 r2 r3 => ?_
 obtain ⟨g4, g5⟩ := rowG_tch g2 g3 r2 (by omega) (fun h => by have := List.mem_singleton.1 h; omega)
 refine Wp.ret ⟨h.next, rfl, ⟨a, r1, by omega, ha, by omega, by omega, g4, g5⟩, Nat.le_refl _, ((t1.mono fun _ h => nomatch h).trans' t2 fun x hx => .inr (by rw [List.mem_singleton.1 hx]; exact Nat.le_refl _)).trans r2⟩
theorem Grow_w {m : Nat} (k : RowH h b TBld [.nilp, .nsl]) (hb : b < h.next) (hx : memB TBld h.ex = true) (hm0 : 0 < m) (hm : m ≤ 1000000000) (hu : memB TU8 h.ex = false) : ∃ c h', world n (d + 2) 33 [.ptr b 0, .int .i64 (m : Int)] h = some (.ret (.tup []), h') ∧ BG h' b c [] ∧ h.next ≤ c ∧ Tch [b] h h' := by
 suffices hK : Wp (world n (d + 2) 33 [.ptr b 0, .int .i64 (m : Int)] h) fun r h' => ∃ c, r = .ret (.tup []) ∧ BG h' b c [] ∧ h.next ≤ c ∧ Tch [b] h h' by
  obtain ⟨_, h', e, c, rfl, q⟩ := hK
  exact ⟨c, h', e, q⟩
 rw [w_strings_Builder_Grow]
 unfold strings_Builder_Grow
 obtain ⟨h1, e1, k1, t1⟩ := ccheck_r (n := n) (d := d) k (.inl rfl) hx
 have n1 := t1.1
 obtain ⟨c, h2, e2, B2, hc, t2⟩ := grow_w (n := n) (d := d) (m := m) k1 (by omega) (.inr rfl) hm (by rw [t1.2.1]; exact hu)
 have rl : reLoad Try.prog h1 TBs (.ptr b (0 + 1)) .nsl = true := reLoad_cell (P := Try.prog) (ty := TBs) (by kernel_rfl) (k1.cell' rfl) same_nsl
 refine Wp.callN e1 (Wp.lett (Wp.lettG fun k7 e7 => Wp.iff (by rw [decide_eq_false_iff_not]; omega) ?_))
 rw [e7]
 refine Wp.obind (nilC_ptr _ _) (Wp.obind (fldP_ptr _ _ _) (Wp.obind (RowH.cell' k1 rfl) (Wp.obind (nilC_ptr _ _) (Wp.obind (fldP_ptr _ _ _) (Wp.obind (RowH.cell' k1 rfl) (Wp.obind (show lenL .nsl = some 0 from rfl) (Wp.outK (capNil h1) (Wp.obind (avInt_int _ _) (Wp.chk (and_t rl rfl) (Wp.lettw (by omega) (by omega) (Wp.lett (Wp.lettG fun k23 e23 => Wp.ift (by rw [decide_eq_true_eq]; omega) (Wp.callN e2 ?_)))))))))))))
 rw [e23]
 exact Wp.ret ⟨c, rfl, B2, by omega, t1.trans t2⟩
def sumT : List Bytes → Nat
 | [] => 0
 | x :: l => x.length + sumT l
theorem sumT_flat : ∀ l : List Bytes, l.flatten.length = sumT l
 | [] => rfl
 | x :: l => by rw [List.flatten_cons, List.length_append, sumT_flat l]; rfl
theorem sum_loop (ks : SlT h v l) (hs : l.flatten.length ≤ 1000000000) {k25 : Int → AHeap → R} (hk : Wp (k25 (l.flatten.length : Int) h) Q) : ∀ (todo : List Bytes) (i fu t : Nat), l.drop i = todo → todo.length < fu → t + sumT todo = l.flatten.length → l.length ≤ 1000000000 → Wp (strings_Join_L1 v (l.length : Int) k25 fu (t : Int) (i : Int) h) Q
 | _, _, 0, _, _, hf, _, _ => by omega
 | [], i, fu + 1, t, hd, hf, ht, hl => by
  have := dropN hd
  rw [strings_Join_L1_s]
  unfold strings_Join_L1b
  refine Wp.lett (Wp.iff (by rw [decide_eq_false_iff_not]; omega) ?_)
  have h0 : sumT [] = 0 := rfl
  rw [show (t : Int) = (l.flatten.length : Int) by omega]
  exact hk
 | x :: todo, i, fu + 1, t, hd, hf, ht, hl => by
  obtain ⟨hi, hci, hd2⟩ := dropC hd
  rw [List.length_cons] at hf
  obtain ⟨p, p1, p2⟩ := ks.at hi
  rw [hci] at p2
  have hsx : sumT (x :: todo) = x.length + sumT todo := rfl
  have ll := lenS_nat x
  rw [strings_Join_L1_s]
  unfold strings_Join_L1b
  refine Wp.lett (Wp.ift (by rw [decide_eq_true_eq]; omega) (Wp.obind p1 (Wp.obind p2 (Wp.obind (avStr_str _) (Wp.lettw (by omega) (by omega) (Wp.lett (Wp.lettG fun k86 e86 => Wp.iff (by rw [decide_eq_false_iff_not]; omega) ?_)))))))
  rw [e86]
  refine Wp.lettw (by omega) (by omega) (Wp.lettw (by omega) (by omega) ?_)
  rw [show (t : Int) + lenS x = ((t + x.length : Nat) : Int) by omega, show (i : Int) + 1 = ((i + 1 : Nat) : Int) by omega]
  exact sum_loop ks hs hk todo (i + 1) fu (t + x.length) hd2 (by omega) (by omega) hl
theorem put_loop {h_27 : AHeap} {bb : Nat} (hb : h_27.next = bb) (hx : h.ex = [89]) {l0 : List Bytes} (ks : SlT h v l0) (hbb : h.next ≤ bb) {total : Bytes} (ht : total.length ≤ 1000000000) {k46 : AHeap → R} (hk : ∀ H c, BG H bb c total → h.next ≤ c → Tch [] h H → Wp (k46 H) Q) : ∀ (todo : List Bytes) (i fu : Nat) (H : AHeap) (c : Nat) (acc : Bytes), l0.drop i = todo → todo.length < fu → BG H bb c acc → h.next ≤ c → Tch [] h H → acc ++ todo.flatten = total → l0.length ≤ 1000000000 → Wp (strings_Join_L0 (world n (d + 2)) [] h_27 v (l0.length : Int) k46 fu (i : Int) H) Q
 | _, _, 0, _, _, _, _, hf, _, _, _, _, _ => by omega
 | [], i, fu + 1, H, c, acc, hd, hf, k, hc, T, he, hl => by
  have := dropN hd
  rw [strings_Join_L0_s]
  unfold strings_Join_L0b
  refine Wp.lett (Wp.iff (by rw [decide_eq_false_iff_not]; omega) (hk H c ?_ hc T))
  have : acc = total := by rw [← he]; exact (List.append_nil acc).symm
  rw [← this]
  exact k
 | x :: todo, i, fu + 1, H, c, acc, hd, hf, k, hc, T, he, hl => by
  obtain ⟨hi, hci, hd2⟩ := dropC hd
  rw [List.length_cons] at hf
  have ks2 := ks.tch T (fun _ _ h => nomatch h)
  obtain ⟨p, p1, p2⟩ := ks2.at hi
  rw [hci] at p2
  have eX : H.ex = [89] := by rw [T.2.1, hx]
  rw [List.flatten_cons, ← List.append_assoc] at he
  have hal : acc.length + x.length ≤ 1000000000 := by
   have : ((acc ++ x) ++ todo.flatten).length ≤ 1000000000 := by rw [he]; exact ht
   simp only [List.length_append] at this
   omega
  obtain ⟨c2, H2, e2, k2, hc2, t2⟩ := writeG (n := n) (d := d) k (by rw [eX]; rfl) (by rw [eX]; rfl) [] (by show acc.length + 0 ≤ _; omega)
  rw [List.append_nil] at k2
  have nT := T.1
  have n2 := t2.1
  have own : ∀ {c : Nat} {b : Nat}, h.next ≤ c → b ∈ [bb, c] → b ∈ ([] : List Nat) ∨ h.next ≤ b := fun hc hb => by
   rcases List.mem_cons.1 hb with rfl | hb
   ·exact .inr hbb
   ·rw [List.mem_singleton.1 hb]
    exact .inr hc
  have T2 := T.trans' t2 fun b hb => own hc hb
  have eX2 : H2.ex = [89] := by rw [T2.2.1, hx]
  obtain ⟨c3, H3, e3, k3, hc3, t3⟩ := writeG (n := n) (d := d) k2 (by rw [eX2]; rfl) (by rw [eX2]; rfl) x hal
  have hc2' : h.next ≤ c2 := by omega
  have T3 := T2.trans' t3 fun b hb => own hc2' hb
  have n3 := t3.1
  rw [strings_Join_L0_s]
  unfold strings_Join_L0b
  rw [newP_eq h_27, hb]
  refine Wp.lett (Wp.ift (by rw [decide_eq_true_eq]; omega) (Wp.obind p1 (Wp.obind p2 (Wp.obind (avStr_str _) (Wp.callN e2 (Wp.callN e3 (Wp.lettw (by omega) (by omega) ?_)))))))
  rw [show (i : Int) + 1 = ((i + 1 : Nat) : Int) by omega]
  exact put_loop hb hx ks hbb ht hk todo (i + 1) fu H3 c3 (acc ++ x) hd2 (by omega) k3 (by omega) T3 he hl
set_option maxHeartbeats 1000000 in
theorem join_w (ks : SlT h v l) (hx : h.ex = [89]) (hn : 2000000000 < n) (hl : l.length ≤ 1000000000) (hs : l.flatten.length ≤ 1000000000) (hne : 2 ≤ l.length → 0 < l.flatten.length) : ∃ h', world n (d + 3) 80 [v, strA []] h = some (.ret (strA l.flatten), h') ∧ Tch [] h h' := by
 suffices hK : Wp (world n (d + 3) 80 [v, strA []] h) fun r h' => r = .ret (strA l.flatten) ∧ Tch [] h h' by
  obtain ⟨_, h', e, rfl, q⟩ := hK
  exact ⟨h', e, q⟩
 rw [w_strings_Join]
 unfold strings_Join
 refine Wp.obind ks.len (Wp.lett ?_)
 by_cases h0 : l.length = 0
 ·have : l = [] := List.length_eq_zero_iff.1 h0
  subst this
  exact Wp.ift rfl (Wp.ret ⟨rfl, Tch.refl _ _⟩)
 refine Wp.iff (beq_f (by omega)) (Wp.lett ?_)
 by_cases h1 : l.length = 1
 ·obtain ⟨p, p1, p2⟩ := ks.at (i := 0) (by omega)
  rw [one_flat l h1]
  exact Wp.ift (beq_t (by omega)) (Wp.obind p1 (Wp.obind p2 (Wp.obind (avStr_str _) (Wp.ret ⟨rfl, Tch.refl _ _⟩))))
 refine Wp.iff (beq_f (by omega)) (Wp.lett (Wp.lettG fun k19 e19 => Wp.iff rfl ?_))
 rw [e19]
 refine Wp.obind ks.len (Wp.lettG fun k25 e25 => ?_)
 have hm0 := hne (by omega)
 refine sum_loop ks hs ?_ l 0 n 0 rfl (by omega) (by rw [Nat.zero_add, sumT_flat]) hl
 rw [e25]
 refine Wp.mnew (Mem.nil [] h) fun h2 M2 => ?_
 have t2 := M2.tch
 have k2 := M2.at0.1
 have l2 := M2.at0.2.1
 have eX2 : h2.ex = [89] := by rw [t2.2.1, hx]
 rw [newP_eq h]
 obtain ⟨c3, h3, e3, B3, hc3, t3⟩ := Grow_w (n := n) (d := d) (m := l.flatten.length) k2 l2 (by rw [eX2]; rfl) hm0 hs (by rw [eX2]; rfl)
 have n2 := t2.1
 have n3 := t3.1
 have T3 : Tch [] h h3 := t2.trans' t3 fun b hb => .inr (by rw [List.mem_singleton.1 hb]; exact Nat.le_refl _)
 have eX3 : h3.ex = [89] := by rw [T3.2.1, hx]
 have ks3 := ks.tch T3 (fun _ _ h => nomatch h)
 obtain ⟨p, p1, p2⟩ := ks3.at (i := 0) (by omega)
 have hfl := head_flat l (by omega)
 have hx0 : l[0].length ≤ 1000000000 := by
  have := congrArg List.length hfl
  rw [List.length_append] at this
  omega
 obtain ⟨c4, h4, e4, B4, hc4, t4⟩ := writeG (n := n) (d := d) B3 (by rw [eX3]; rfl) (by rw [eX3]; rfl) l[0] (by show 0 + _ ≤ _; omega)
 have n4 := t4.1
 have T4 := T3.trans' t4 fun b hb => .inr (by
  rcases List.mem_cons.1 hb with rfl | hb
  ·exact Nat.le_refl _
  ·rw [List.mem_singleton.1 hb]
   omega)
 obtain ⟨v5, e5, ks5, hv5⟩ := ks.tail (fun h => h0 (by rw [h]; rfl))
 have htl : l.tail.length ≤ 1000000000 := by rw [List.length_tail]; omega
 have ks54 := ks5.tch T4 (fun _ _ h => nomatch h)
 refine Wp.callK e3 (Wp.obind p1 (Wp.obind p2 (Wp.obind (avStr_str _) (Wp.callN e4 (Wp.outK (e5 h4) (Wp.obind ks54.len (Wp.lettG fun k46 e46 => ?_)))))))
 refine put_loop (n := n) (d := d) (h := h) (h_27 := h) (bb := h.next) (v := v5) (total := l.flatten) rfl hx ks5 (Nat.le_refl _) hs (fun H c BH hc T => ?_) l.tail 0 n h4 c4 l[0] rfl (by omega) (by rw [List.nil_append] at B4; exact B4) (by omega) T4 hfl.symm htl
 obtain ⟨h6, e6, t6⟩ := stringG (n := n) (d := d + 1) BH (fun h => by rw [h] at hm0; cases hm0) hs
 rw [e46]
 refine Wp.callN e6 (Wp.obind (avStr_str _) (Wp.ret ⟨rfl, T.trans' t6 fun b hb => .inr ?_⟩))
 rcases List.mem_cons.1 hb with rfl | hb
 ·exact Nat.le_refl _
 ·rw [List.mem_singleton.1 hb]
  exact hc
end
abbrev THs : Nat := 110
def mkO (o : Option (Mk × Bytes)) : Mk := (o.map Prod.fst).getD ⟨0, 0⟩
def txO (o : Option (Mk × Bytes)) : Bytes := (o.map Prod.snd).getD []
noncomputable def hdC (f : Int) (o : Option (Mk × Bytes)) : List AV := [.int .i64 f, .bool o.isSome, .int .i64 (mkO o).i, .int .i64 (mkO o).t, strA (txO o)]
theorem filesL_mem (s : DS) (f : Nat) : ∀ k : Nat, ((f : Int) ∈ filesL s k) ↔ (f < k ∧ (s.fs f).seen.th = true)
 | 0 => ⟨fun h => (nomatch h), fun h => absurd h.1 (Nat.not_lt_zero _)⟩
 | k + 1 => by
  have ih := filesL_mem s f k
  unfold filesL
  by_cases hk : (s.fs k).seen.th = true
  ·rw [if_pos hk, List.mem_append, List.mem_singleton, ih]
   constructor
   ·rintro (⟨h1, h2⟩ | h)
    ·exact ⟨by omega, h2⟩
    ·have : f = k := by omega
     rw [this]
     exact ⟨Nat.lt_succ_self _, hk⟩
   ·rintro ⟨h1, h2⟩
    by_cases hf : f = k
    ·exact .inr (by rw [hf])
    ·exact .inl ⟨by omega, h2⟩
  ·rw [if_neg hk, ih]
   constructor
   ·exact fun h => ⟨by omega, h.2⟩
   ·rintro ⟨h1, h2⟩
    refine ⟨?_, h2⟩
    rcases Nat.lt_or_ge f k with h | h
    ·exact h
    ·have : f = k := by omega
     rw [this] at h2
     exact absurd h2 hk
section
variable {n d D : Nat} {h H : AHeap} {u s : Bytes} {v : AV} {zs : List Int} {Q : ARes → AHeap → Prop}
theorem index_loop (k : IAt H v zs) {z : Int} (hl : zs.length < 1000000) {k6 : AHeap → R} : ∀ (todo : List Int) (i fu : Nat), zs.drop i = todo → todo.length < fu → (∀ j, i ≤ j → (hj : j < zs.length) → zs[j] = z → Q (.ret (.int .i64 (j : Int))) H) → (z ∉ todo → Wp (k6 H) Q) → Wp (slices_Index___int_int__L0 v z (zs.length : Int) k6 fu (i : Int) H) Q
 | _, _, 0, _, hf, _, _ => by omega
 | [], i, fu + 1, hd, hf, _, hk => by
  have := dropN hd
  rw [slices_Index___int_int__L0_s]
  unfold slices_Index___int_int__L0b
  exact Wp.lett (Wp.iff (by rw [decide_eq_false_iff_not]; omega) (hk (fun h => nomatch h)))
 | x :: todo, i, fu + 1, hd, hf, hq, hk => by
  obtain ⟨hi, hci, hd2⟩ := dropC hd
  rw [List.length_cons] at hf
  obtain ⟨p, p1, p2⟩ := k.at hi
  rw [hci] at p2
  rw [slices_Index___int_int__L0_s]
  unfold slices_Index___int_int__L0b
  refine Wp.lett (Wp.ift (by rw [decide_eq_true_eq]; omega) (Wp.obind p1 (Wp.obind p2 (Wp.obind (avInt_int _ _) (Wp.lett ?_)))))
  by_cases hx : z = x
  ·exact Wp.ift (beq_t hx) (Wp.ret (hq i (Nat.le_refl _) hi (hci.trans hx.symm)))
  ·refine Wp.iff (beq_f hx) (Wp.lettw (by omega) (by omega) ?_)
   rw [show (i : Int) + 1 = ((i + 1 : Nat) : Int) by omega]
   exact index_loop k hl todo (i + 1) fu hd2 (by omega) (fun j h1 h2 h3 => hq j (by omega) h2 h3) fun hn => hk fun hm => by
    rcases List.mem_cons.1 hm with h | h
    ·exact hx h
    ·exact hn h
theorem contains_w (k : IAt H v zs) (hl : zs.length < 1000000) (hn : 1000000 < n) (z : Int) : world n (d + 2) 62 [v, .int .i64 z] H = some (.ret (.bool (decide (z ∈ zs))), H) := by
 have e1 : ∃ r : Int, world n (d + 1) 81 [v, .int .i64 z] H = some (.ret (.int .i64 r), H) ∧ (0 ≤ r ↔ z ∈ zs) := by
  suffices hK : Wp (slices_Index___int_int_ (world n d) n v z H) fun r H' => ∃ i : Int, r = .ret (.int .i64 i) ∧ (0 ≤ i ↔ z ∈ zs) ∧ H' = H by
   obtain ⟨_, H', e, i, rfl, hi, rfl⟩ := hK
   exact ⟨i, (w_slices_Index___int_int_ n d v z _).trans e, hi⟩
  unfold slices_Index___int_int_
  refine Wp.obind k.len (Wp.lettG fun k6 e6 => ?_)
  refine index_loop k hl zs 0 n rfl (by omega) (fun j _ hj hz => ⟨(j : Int), rfl, ⟨fun _ => hz ▸ List.getElem_mem hj, fun _ => by omega⟩, rfl⟩) fun hn => ?_
  rw [e6]
  exact Wp.ret ⟨-1, rfl, ⟨fun h => absurd h (by decide), fun h => absurd h hn⟩, rfl⟩
 obtain ⟨r, e1, hr⟩ := e1
 apply Wp.eq
 rw [w_slices_Contains___int_int_]
 unfold slices_Contains___int_int_
 refine Wp.callN e1 (Wp.obind (avInt_int _ _) (Wp.lett (Wp.ret ⟨?_, rfl⟩)))
 have : decide (r ≥ 0) = decide (z ∈ zs) := by
  by_cases hz : z ∈ zs
  ·rw [decide_eq_true hz, decide_eq_true (hr.2 hz)]
  ·rw [decide_eq_false hz, decide_eq_false (fun hh => hz (hr.1 hh))]
 rw [this]
def newB (a b : Option (Mk × Bytes)) : Bool := b.isSome && (!a.isSome || decide ((mkO b).i > (mkO a).i))
theorem idx2 {b i : Nat} (h : i < 2) : idxA 2 5 (.ptr b 0) (i : Int) = some (.ptr b (5 * i)) := by
 rcases (show i = 0 ∨ i = 1 by omega) with rfl | rfl <;> rfl
theorem newest_w (f g : Int) (a b : Option (Mk × Bytes)) : world n (d + 1) 40 [.agg (hdC f a ++ hdC g b)] H = some (.ret (.int .i64 (if newB a b = true then 1 else 0)), H) := by
 apply Wp.eq
 rw [w_snap_newest]
 refine Wp.gc ?_
 unfold snap_newest
 refine Wp.mbox (Mem.nil [] H) rfl fun h2 M2 => ?_
 have k2 := M2.at0.1
 have A := M2.tch.above
 have i0 : idxA 2 5 (.ptr H.next 0) 0 = some (.ptr H.next (5 * 0)) := idx2 (i := 0) (by decide)
 have i1 : idxA 2 5 (.ptr H.next 0) 1 = some (.ptr H.next (5 * 1)) := idx2 (i := 1) (by decide)
 have gb : (hdC f a ++ hdC g b)[5 * 1 + 1]? = some (.bool b.isSome) := rfl
 have ga : (hdC f a ++ hdC g b)[5 * 0 + 1]? = some (.bool a.isSome) := rfl
 have gbi : (hdC f a ++ hdC g b)[5 * 1 + 2 + 0]? = some (.int .i64 (mkO b).i) := rfl
 have gai : (hdC f a ++ hdC g b)[5 * 0 + 2 + 0]? = some (.int .i64 (mkO a).i) := rfl
 refine Wp.obind i1 (Wp.obind (fldP_ptr _ _ _) (Wp.obind (RowH.cell' k2 gb) (Wp.obind (avBool_bool _) (Wp.lettG fun j22 e22 => ?_))))
 have K22 : ∀ c : Bool, c = newB a b → Wp (j22 c h2) fun r H' => Above H H' ∧ r.val.scal = true ∧ r = ARes.ret (.int .i64 (if newB a b = true then 1 else 0)) ∧ H = H := fun c hc => by
  rw [e22, ← hc]
  cases c with
  | true => exact Wp.ift rfl (Wp.ret ⟨A, rfl, rfl, rfl⟩)
  | false => exact Wp.iff rfl (Wp.ret ⟨A, rfl, rfl, rfl⟩)
 cases hb : b.isSome with
 | false => exact Wp.iff rfl (K22 false (by unfold newB; rw [hb]; rfl))
 | true =>
  refine Wp.ift rfl (Wp.obind i0 (Wp.obind (fldP_ptr _ _ _) (Wp.obind (RowH.cell' k2 ga) (Wp.obind (avBool_bool _) (Wp.lett (Wp.lettG fun j21 e21 => ?_))))))
  cases ha : a.isSome with
  | false =>
   refine Wp.ift rfl ?_
   rw [e21]
   exact K22 true (by unfold newB; rw [hb, ha]; rfl)
  | true =>
   refine Wp.iff rfl (Wp.obind i1 (Wp.obind (fldP_ptr _ _ _) (Wp.obind (fldP_ptr _ _ _) (Wp.obind (RowH.cell' k2 gbi) (Wp.obind (avInt_int _ _) (Wp.obind i0 (Wp.obind (fldP_ptr _ _ _) (Wp.obind (fldP_ptr _ _ _) (Wp.obind (RowH.cell' k2 gai) (Wp.obind (avInt_int _ _) (Wp.lett ?_)))))))))))
   rw [e21]
   exact K22 _ (by unfold newB; rw [hb, ha]; rfl)
theorem Sli.slT {e : Nat} {l : List Bytes} (k : Sli TStr 1 e H v (strR l)) : (l = [] → v = .nsl ∨ SlT H v l) ∧ (l ≠ [] → SlT H v l) ∧ lenL v = some (l.length : Int) := by
 have hf : (strR l).flatten = l.map strA := flat_one strA l
 have hl : (strR l).length = l.length := List.length_map ..
 rcases k.2 with ⟨h1, rfl⟩ | ⟨c, _, rfl, h3, h4, h5⟩
 ·have hnil : l = [] := by
   cases l with
   | nil => rfl
   | cons a l => cases h1
  subst hnil
  exact ⟨fun _ => .inl rfl, fun h => absurd rfl h, rfl⟩
 ·rw [hf] at h5
  rw [hl]
  have ks : SlT H (.sl c 0 l.length 1) l := .inr ⟨c, 0, l, rfl, h5, h4, by omega, by rw [List.drop_zero, List.take_length]⟩
  exact ⟨fun _ => .inr ks, fun _ => ks, rfl⟩
set_option maxHeartbeats 2000000 in
theorem sread_w (hs : s.length ≤ 1048576) (hx : H.ex = [89]) (hn : 2000000000 < n) (hF : Fine s) : ∃ H', wL n (D + 6) (d + 5) false 61 [strA s] H = some (.ret (.tup [.agg (mkC (mkO (readF s))), strA (txO (readF s)), .bool (readF s).isSome]), H') ∧ Tch [] H H' := by
 suffices hK : Wp (snap_read (wL n (D + 6) (d + 4) false) n s H) fun r H' => r = .ret (.tup [.agg (mkC (mkO (readF s))), strA (txO (readF s)), .bool (readF s).isSome]) ∧ Tch [] H H' by
  obtain ⟨_, H', e, rfl, t⟩ := hK
  exact ⟨H', wL_snap_read n (D + 6) (d + 4) _ e, t⟩
 unfold snap_read
 refine Wp.mnew (Mem.nil [] H) fun h2 M2 => ?_
 have t2 := M2.tch
 have k2 := M2.at0.1
 have l2 := M2.at0.2.1
 have x2 : h2.ex = [89] := by rw [t2.2.1, hx]
 obtain ⟨h3, v, e3, k3, t3⟩ := scan_w (n := n) (D := D + 1) (d := d) (s := s) (H := h2) (by omega) (by omega) x2
 have T3 := t2.trans t3
 have n3 := t3.1
 have kr3 := k2.tch t3 l2 (fun h => nomatch h)
 obtain ⟨ps, hps⟩ : ∃ ps, (scanR s).1 = ps := ⟨_, rfl⟩
 rw [hps] at k3
 obtain ⟨_, ks3, hlen⟩ := Sli.slT k3
 have hpl : ps.length * 12 ≤ s.length := by
  have := (scanR_at s.length s (Nat.le_refl _)).2
  rw [hps] at this
  exact this
 have x3 : h3.ex = [89] := by rw [T3.2.1, hx]
 refine Wp.callN e3 (Wp.obind (extT_0 _ _) (Wp.obind (extT_1 _ _ _) (Wp.obind (avInt_int _ _) (Wp.obind hlen (Wp.lett (Wp.lettG fun j22 e22 => ?_))))))
 have fin0 : readF s = none → ∀ h4, ∀ (r0 : List AV), RowH h4 H.next TMk r0 → r0.length = 2 → Tch [] H h4 → Wp (Abs.obind (stRow h4 2 ([.int .i64 0, .int .i64 0] : List AV) (.ptr H.next 0)) fun h_18 => Abs.obind (ldRow h_18 2 (.ptr H.next 0)) fun w2 => some (.ret (.tup [.agg w2, strA ([] : Bytes), .bool false]), h_18)) fun r H' => r = .ret (.tup [.agg (mkC (mkO (readF s))), strA (txO (readF s)), .bool (readF s).isSome]) ∧ Tch [] H H' := fun hr h4 r0 k4 hl4 T4 => by
  rw [hr]
  refine Wp.stAll k4 rfl hl4 rfl fun h5 k5 t5 n5 => Wp.obind (k5.ldAll rfl) (Wp.ret ⟨rfl, T4.trans' t5 fun b hb => .inr ?_⟩)
  rw [List.mem_singleton.1 hb]
  exact Nat.le_refl _
 have bad : readF s = none → Wp (j22 true h3) fun r H' => r = .ret (.tup [.agg (mkC (mkO (readF s))), strA (txO (readF s)), .bool (readF s).isSome]) ∧ Tch [] H H' := fun hr => by
  rw [e22, newP_eq H]
  exact Wp.ift rfl (fin0 hr h3 _ kr3 rfl T3)
 cases hcp : ps with
 | nil =>
  refine Wp.ift (beq_t rfl) (bad ?_)
  unfold readF
  rw [hps, hcp]
  rfl
 | cons p qs =>
  have hne : ps ≠ [] := by rw [hcp]; exact fun h => nomatch h
  have ks := ks3 hne
  have hsep : ∀ b ∈ blkV v, h2.next ≤ b := fun b hb => by
   rcases k3.2 with ⟨_, rfl⟩ | ⟨c, _, rfl, q3, _⟩
   ·cases hb
   ·rw [List.mem_singleton.1 hb]
    exact q3
  rw [hcp] at ks
  obtain ⟨q, q1, q2⟩ := ks.at (i := 0) (Nat.succ_pos _)
  have q2 : ldCell h3 q = some (strA p) := q2
  have hpm : p ∈ (scanR s).1 := by rw [hps, hcp]; exact List.mem_cons_self ..
  have hpl2 : p.length ≤ 4096 := scan_small _ s (Nat.le_refl _) p hpm
  have hrd : readF s = readP (p :: qs) s := by
   unfold readF
   rw [hps, hcp]
  refine Wp.iff (beq_f (by show ¬ ((qs.length + 1 : Nat) : Int) = 0; omega)) (Wp.obind q1 (Wp.obind q2 (Wp.obind (avStr_str _) (Wp.callN ((wL_b 32).trans (prefix_w (n := n) (d := D + 4) (s := p) (by omega))) (Wp.obind (avBool_bool _) (Wp.lett ?_))))))
  by_cases hpre : p.take 8 = nameB
  case neg =>
   rw [decide_eq_false hpre]
   refine bad ?_
   rw [hrd]
   exact if_neg fun h => hpre h.1
  have hp8 : 8 ≤ p.length := by
   have := congrArg List.length hpre
   rw [List.length_take] at this
   have h8 : nameB.length = 8 := rfl
   omega
  have lp := lenS_nat p
  have sl8 : sliceS p 8 (lenS p) = some (p.drop 8) := by
   rw [sliceS_int (by omega) (by omega) (by omega), List.take_of_length_le (by rw [List.length_drop]; omega)]
   rfl
  rw [decide_eq_true hpre, e22]
  obtain ⟨h4, e4, k4, l4, t4⟩ := new_r (n := n) (d := D + 5) (p.drop 8) h3
  have n4 := t4.1
  have hdl : (p.drop 8).length ≤ 1000000000 := by rw [List.length_drop]; omega
  have ok0 : RS.ok (p.drop 8) ⟨0, 0, 0⟩ := Nat.zero_le _
  obtain ⟨h5, e5, k5, t5⟩ := u64_r (n := n) (d := D + 3) k4 ok0 hdl (by omega)
  have n5 := t5.1
  obtain ⟨h6, e6, k6, t6⟩ := u64_r (n := n) (d := D + 3) k5 (rNum_ok ok0) hdl (by omega)
  have n6 := t6.1
  have T6 : Tch [] H h6 := ((T3.trans t4).trans' t5 fun b hb => .inr (by rw [List.mem_singleton.1 hb]; have := T3.1; omega)).trans' t6 fun b hb => .inr (by rw [List.mem_singleton.1 hb]; have := T3.1; omega)
  have nh3 := T3.1
  have kr6 := ((kr3.tch t4 (by omega) (fun h => nomatch h)).tch t5 (by omega) (fun h => by have := List.mem_singleton.1 h; omega)).tch t6 (by omega) (fun h => by have := List.mem_singleton.1 h; omega)
  have ks6 := ((ks.tch t4 (fun _ _ h => nomatch h)).tch t5 (fun b hb h => by have := ks.lt b hb; have := List.mem_singleton.1 h; omega)).tch t6 (fun b hb h => by have := ks.lt b hb; have := List.mem_singleton.1 h; omega)
  refine Wp.iff rfl (Wp.obind q1 (Wp.obind q2 (Wp.obind (avStr_str _) (Wp.obind sl8 (Wp.callN ((wL_b 78).trans e4) (Wp.callN ((wL_b 79).trans e5) (Wp.obind (avInt_int _ _) (Wp.lett (Wp.callN ((wL_b 79).trans e6) (Wp.obind (avInt_int _ _) (Wp.lett ?_)))))))))))
  rw [newP_eq H]
  refine Wp.stAll kr6 rfl rfl rfl fun h7 k7 t7 n7 => ?_
  have k7 : RowH h7 H.next TMk (mkC (mkV p)) := k7
  have T7 : Tch [] H h7 := T6.trans' t7 fun b hb => .inr (by rw [List.mem_singleton.1 hb]; exact Nat.le_refl _)
  have x7 : h7.ex = [89] := by rw [T7.2.1, hx]
  have ks7 := ks6.tch t7 (fun b hb h => by have h1 := hsep b hb; have h2 := List.mem_singleton.1 h; omega)
  obtain ⟨v8, e8, ks8, _⟩ := ks7.tail (fun h => nomatch h)
  have ks8 : SlT h7 v8 qs := ks8
  have hql : qs.length ≤ 1000000 := by
   have := congrArg List.length hcp
   rw [List.length_cons] at this
   omega
  have hqf : qs.flatten.length ≤ 1048576 := by
   have h1 := scan_sum s.length s (Nat.le_refl _)
   rw [hps, hcp, List.flatten_cons, List.length_append] at h1
   omega
  have hFq : 2 ≤ qs.length → 0 < qs.flatten.length := fun h => by
   have := hF
   unfold Fine at this
   rw [hps, hcp] at this
   exact this h
  obtain ⟨h9, e9, t9⟩ := join_w (n := n) (d := D + 3) ks8 x7 (by omega) (by omega) (by omega) hFq
  have T9 := T7.trans t9
  have n9 := t9.1
  have k9 := k7.tch t9 (by have := T7.1; have := T6.1; omega) (fun h => nomatch h)
  have x9 : h9.ex = [89] := by rw [T9.2.1, hx]
  have lu := lenS_nat qs.flatten
  refine Wp.outK (e8 h7) (Wp.callK ((wL_b 80).trans e9) (Wp.obind (avStr_str _) (Wp.obind (k9.ldAll rfl) (Wp.callN ((wL_b 41).trans (mark_w (n := n) (d := D + 5) (m := mkV p))) (Wp.obind (avBool_bool _) (Wp.lett (Wp.lettG fun j46 e46 => ?_)))))))
  have K46 : ∀ b : Bool, (b = true → readF s = none) → (b = false → mkOk (mkV p) ∧ qs.flatten.length ≤ 262144) → Wp (j46 b h9) fun r H' => r = .ret (.tup [.agg (mkC (mkO (readF s))), strA (txO (readF s)), .bool (readF s).isSome]) ∧ Tch [] H H' := fun b hb1 hb2 => by
   rw [e46]
   refine Wp.lettG fun j53 e53 => ?_
   have K53t : readF s = none → Wp (j53 true h9) fun r H' => r = .ret (.tup [.agg (mkC (mkO (readF s))), strA (txO (readF s)), .bool (readF s).isSome]) ∧ Tch [] H H' := fun hr => by
    rw [e53]
    exact Wp.ift rfl (fin0 hr h9 _ k9 rfl T9)
   cases b with
   | true => exact Wp.ift rfl (K53t (hb1 rfl))
   | false =>
    obtain ⟨hm, hu⟩ := hb2 rfl
    refine Wp.iff rfl (Wp.obind (k9.ldAll rfl) (Wp.callN ((wL_b 43).trans (bytesOf_w (n := n) (d := D) (m := mkV p) (u := qs.flatten) (by omega) x9 hm (by omega))) (Wp.obind (avStr_str _) (Wp.lett ?_))))
    by_cases hs2 : snapB (mkV p) qs.flatten = s
    ·have hr : readF s = some (mkV p, qs.flatten) := by
      rw [hrd]
      exact if_pos ⟨hpre, hm, hu, hs2⟩
     rw [eqS_true.2 hs2, e53, hr]
     refine Wp.iff rfl (Wp.obind (k9.ldAll rfl) (Wp.stAll k9 rfl rfl rfl fun h10 k10 t10 n10 => Wp.obind (k10.ldAll rfl) (Wp.ret ⟨rfl, T9.trans' t10 fun b hb => .inr ?_⟩)))
     rw [List.mem_singleton.1 hb]
     exact Nat.le_refl _
    ·have hne : (!eqS (snapB (mkV p) qs.flatten) s) = true := by
      cases hb : eqS (snapB (mkV p) qs.flatten) s with
      | false => rfl
      | true => exact absurd (eqS_true.1 hb) hs2
     rw [hne]
     refine K53t ?_
     rw [hrd]
     exact if_neg fun h => hs2 h.2.2.2
  by_cases hm : mkOk (mkV p)
  ·rw [decide_eq_true hm]
   refine Wp.iff rfl (Wp.lett (K46 _ (fun h => ?_) fun h => ⟨hm, ?_⟩))
   ·rw [decide_eq_true_eq] at h
    rw [hrd]
    exact if_neg fun h2 => by have := h2.2.2.1; omega
   ·rw [decide_eq_false_iff_not] at h
    omega
  ·rw [decide_eq_false hm]
   refine Wp.ift rfl (K46 true (fun _ => ?_) (fun h => nomatch h))
   rw [hrd]
   exact if_neg fun h2 => hm h2.2.1
end
def ofC (y : FileS) : Option (Mk × Bytes) := if y.seen.th = true then readF y.seen.u else none
def FineC (y : FileS) : Prop := y.seen.th = true → Fine y.seen.u
def chA (u : Bytes) : Chg := ⟨0, u, 0⟩
def chR : Chg := ⟨2, [], 0⟩
def repE (s : DS) (f : Nat) (u : Bytes) : Int × DS := if errP s (f : Int) (chA u) ≠ 0 then (errP s (f : Int) (chA u), actD s (f : Int) (chA u)) else (refP (actD s (f : Int) (chA u)).p (f : Int), synD (actD s (f : Int) (chA u)) (f : Int))
def repD (s : DS) (f : Nat) (u : Bytes) : Int × DS := if (s.fs f).seen.th = true then (if errP s (f : Int) chR ≠ 0 then (errP s (f : Int) chR, actD s (f : Int) chR) else repE (actD s (f : Int) chR) f u) else repE s f u
def bestO (a b : Option (Mk × Bytes)) : Option (Mk × Bytes) := if newB a b = true then b else a
def nextF (a b : Option (Mk × Bytes)) : Nat := if (bestO a b).isSome = true ∧ newB a b = false then 3 else 2
def saveD (s : DS) (m : Mk) (u : Bytes) : Int × DS :=
 if s.p = 0 then (40, s) else if ¬ mkOk m then (2, s) else if u.length > 262144 then (3, s)
 else if (bestO (ofC (s.fs 2)) (ofC (s.fs 3))).isSome = true ∧ m.i ≤ (mkO (bestO (ofC (s.fs 2)) (ofC (s.fs 3)))).i then (5, s)
 else repD s (nextF (ofC (s.fs 2)) (ofC (s.fs 3))) (snapB m u)
theorem bldHs : bldS Try.prog THs [(0, .agg ([.int .i64 2, .bool false, .int .i64 0, .int .i64 0, .str 0 0] : List AV)), (1, .agg ([.int .i64 3, .bool false, .int .i64 0, .int .i64 0, .str 0 0] : List AV))] = some (hdC 2 none ++ hdC 3 none) := by kernel_rfl
def shr (lo : Nat → Prop) (a b : Nat) : Nat → Prop := fun i => lo i ∧ (i < a ∨ b ≤ i)
section
variable {n d D db B : Nat} {lo : Nat → Prop} {h H : AHeap} {s : DS} {u : Bytes} {m : Mk} {Q : ARes → AHeap → Prop}
theorem At.seen_len (K : At lo H db s B) {z : Nat} (hz : z < 32) : (s.fs z).seen.u.length ≤ B := by
 obtain ⟨_, _, K⟩ := K
 obtain ⟨o1, _, o3, _⟩ := K.ok z hz
 have := doL_len (s.fs z).loose (s.fs z).sure
 rw [← o1] at this
 omega
theorem look_step (K : At lo H db s B) (hp : s.p ≠ 0) {i : Nat} (hi : i < 2) (hsz : (s.fs (i + 2)).seen.u.length ≤ 1048576) (hF : FineC (s.fs (i + 2))) (hn : 2000000000 < n) {h_2 : AHeap} {b2 : Nat} (hb2 : h_2.next = b2) {l : List AV} {l1 : Option (Mk × Bytes) → List AV} (kr : RowH H b2 THs l) (lb : b2 < H.next) (hl : l.length = 10) (g0 : l[5 * i + 0]? = some (.int .i64 ((i + 2 : Nat) : Int))) (he : ∀ o, ((laid l (5 * i + 2) (mkC (mkO o))).set (5 * i + 4) (strA (txO o))).set (5 * i + 1) (.bool o.isSome) = l1 o) (hno : l1 none = l) {k13 : AHeap → R} {fu : Nat}
  (hk : ∀ H', RowH H' b2 THs (l1 (ofC (s.fs (i + 2)))) → Tch [b2] H H' → Wp (snap_look_L0 (wL n (D + 6) (d + 5) false) (.ptr db 0) h_2 k13 fu ((i + 1 : Nat) : Int) H') Q) :
  Wp (snap_look_L0 (wL n (D + 6) (d + 5) false) (.ptr db 0) h_2 k13 (fu + 1) (i : Int) H) Q := by
 have r0 : refP s.p ((i + 2 : Nat) : Int) = 0 := by
  unfold refP
  rw [if_neg hp, if_pos (by omega)]
 have er := read_a (n := n) (d := D + 3) (z := ((i + 2 : Nat) : Int)) K
 have hx := K.ex
 rw [snap_look_L0_s]
 unfold snap_look_L0b
 rw [newP_eq h_2, hb2]
 refine Wp.lett (Wp.ift (by rw [decide_eq_true_eq]; omega) (Wp.obind (idx2 hi) (Wp.obind (nilC_ptr _ _) (Wp.obind (fldP_ptr _ _ _) (Wp.obind (RowH.cell' kr g0) (Wp.obind (avInt_int _ _) (Wp.callN ((wL_b 60).trans er) (Wp.obind (extT_0 _ _) (Wp.obind (avStr_str _) (Wp.obind (extT_1 _ _ _) (Wp.obind (avInt_int _ _) (Wp.lett (Wp.lettG fun k43 e43 => ?_)))))))))))))
 have hre : readE s ((i + 2 : Nat) : Int) = if (s.fs (i + 2)).seen.th = true then 0 else 4 := by
  unfold readE
  rw [if_pos r0, Int.toNat_natCast]
 have hrs : readS s ((i + 2 : Nat) : Int) = if (s.fs (i + 2)).seen.th = true then (s.fs (i + 2)).seen.u else [] := by
  unfold readS
  rw [if_pos r0, Int.toNat_natCast]
 have go : ∀ H', RowH H' b2 THs (l1 (ofC (s.fs (i + 2)))) → Tch [b2] H H' → Wp (k43 H') Q := fun H' h1 h2 => by
  rw [e43]
  refine Wp.lettw (by omega) (by omega) ?_
  rw [show (i : Int) + 1 = ((i + 1 : Nat) : Int) by omega]
  exact hk H' h1 h2
 by_cases hth : (s.fs (i + 2)).seen.th = true
 ·rw [if_pos hth] at hre hrs
  have hof : ofC (s.fs (i + 2)) = readF (s.fs (i + 2)).seen.u := if_pos hth
  obtain ⟨h3, e3, t3⟩ := sread_w (n := n) (D := D) (d := d) (s := (s.fs (i + 2)).seen.u) hsz hx hn (hF hth)
  rw [hre, hrs]
  have kr3 := kr.tch t3 lb (fun h => nomatch h)
  refine Wp.ift rfl (Wp.callK e3 (Wp.obind (extT_0 _ _) (Wp.obind (avAgg_agg _) (Wp.obind (extT_1 _ _ _) (Wp.obind (avStr_str _) (Wp.obind (extT_2 _ _ _ _) (Wp.obind (avBool_bool _) (Wp.obind (nilC_ptr _ _) (Wp.obind (fldP_ptr _ _ _) ?_)))))))))
  have hlm : ∀ o, (laid l (5 * i + 2) (mkC o)).length = 10 := fun o => by rw [laid_length (show 5 * i + 2 + 2 ≤ l.length by omega), hl]
  refine Wp.stN kr3 rfl (show 5 * i + 2 + 2 ≤ l.length by omega) rfl fun h4 k4 t4 n4 => Wp.obind (nilC_ptr _ _) (Wp.obind (fldP_ptr _ _ _) ?_)
  refine Wp.st1 k4 (show 5 * i + 4 < _ by rw [hlm]; omega) rfl fun h5 k5 t5 n5 => Wp.obind (nilC_ptr _ _) (Wp.obind (fldP_ptr _ _ _) ?_)
  refine Wp.st1 k5 (show 5 * i + 1 < _ by rw [List.length_set, hlm]; omega) rfl fun h6 k6 t6 n6 => go h6 ?_ ((t3.mono fun _ h => nomatch h).trans ((t4.trans t5).trans t6))
  rw [hof, ← he]
  exact k6
 ·rw [if_neg hth] at hre
  have hof : ofC (s.fs (i + 2)) = none := if_neg hth
  rw [hre]
  refine Wp.iff rfl (go H ?_ (Tch.refl _ _))
  rw [hof, hno]
  exact kr
theorem look_w (K : At lo H db s B) (hp : s.p ≠ 0) (hz2 : (s.fs 2).seen.u.length ≤ 1048576) (hz3 : (s.fs 3).seen.u.length ≤ 1048576) (hF2 : FineC (s.fs 2)) (hF3 : FineC (s.fs 3)) (hn : 2000000000 < n) : ∃ H', wL n (D + 6) (d + 6) false 39 [.ptr db 0] H = some (.ret (.agg (hdC 2 (ofC (s.fs 2)) ++ hdC 3 (ofC (s.fs 3)))), H') ∧ Tch [] H H' := by
 suffices hK : Wp (snap_look (wL n (D + 6) (d + 5) false) n (.ptr db 0) H) fun r H' => r = .ret (.agg (hdC 2 (ofC (s.fs 2)) ++ hdC 3 (ofC (s.fs 3)))) ∧ Tch [] H H' by
  obtain ⟨_, H', e, rfl, t⟩ := hK
  exact ⟨H', wL_snap_look n (D + 6) (d + 5) _ e, t⟩
 unfold snap_look
 refine Wp.mnew (Mem.nil [] H) fun h2 M2 => Wp.obind bldHs (Wp.mnew (Mem.nil [] h2) fun h3 M3 => ?_)
 have kr2 := M2.at0.1
 have l2 := M2.at0.2.1
 have t2 := M2.tch
 have n2 := t2.1
 rw [newP_eq h2]
 refine Wp.stAll M3.at0.1 rfl rfl rfl fun h4 k4 t4 n4 => Wp.lettG fun k13 e13 => ?_
 have l3 := M3.at0.2.1
 have t3 := M3.tch
 have T4 : Tch [] H h4 := (t2.trans t3).trans' t4 fun b hb => .inr (by rw [List.mem_singleton.1 hb]; exact n2)
 have K4 := K.part T4 (fun _ h => nomatch h)
 have kr4 := (kr2.tch t3 l2 (fun h => nomatch h)).tch t4 (by have := t3.1; omega) (fun h => by have := List.mem_singleton.1 h; omega)
 obtain ⟨m, hm⟩ : ∃ m, n = m + 3 := ⟨n - 3, by omega⟩
 have hfu : ∀ Q, Wp (snap_look_L0 (wL n (D + 6) (d + 5) false) (.ptr db 0) h2 k13 (m + 1 + 1 + 1) ((0 : Nat) : Int) h4) Q → Wp (snap_look_L0 (wL n (D + 6) (d + 5) false) (.ptr db 0) h2 k13 n 0 h4) Q := fun Q hw => by
  rw [show snap_look_L0 (wL n (D + 6) (d + 5) false) (.ptr db 0) h2 k13 n 0 h4 = snap_look_L0 (wL n (D + 6) (d + 5) false) (.ptr db 0) h2 k13 (m + 1 + 1 + 1) ((0 : Nat) : Int) h4 from by rw [← hm]; rfl]
  exact hw
 refine hfu _ (look_step (D := D) (d := d) (i := 0) (l1 := fun o => hdC 2 o ++ hdC 3 none) K4 hp (by decide) hz2 hF2 hn rfl k4 (by omega) rfl rfl (fun o => rfl) rfl fun h5 k5 t5 => ?_)
 have n5 := t5.1
 have K5 := K4.tch t5 (fun b hb => .inl fun h => by rw [List.mem_singleton.1 hb] at h; rcases h.2 with h | h <;> omega)
 refine look_step (D := D) (d := d) (i := 1) (l1 := fun o => hdC 2 (ofC (s.fs 2)) ++ hdC 3 o) K5 hp (by decide) hz3 hF3 hn rfl k5 (by omega) rfl rfl (fun o => rfl) rfl fun h6 k6 t6 => ?_
 have kr6 := (kr4.tch t5 (by omega) (fun h => by have := List.mem_singleton.1 h; omega)).tch t6 (by omega) (fun h => by have := List.mem_singleton.1 h; omega)
 rw [snap_look_L0_s]
 unfold snap_look_L0b
 refine Wp.lett (Wp.iff rfl ?_)
 rw [e13]
 dsimp only
 rw [newP_eq H]
 refine Wp.obind (k6.ldAll rfl) (Wp.stAll kr6 rfl rfl rfl fun h7 k7 t7 n7 => Wp.obind (k7.ldAll rfl) (Wp.ret ⟨rfl, ?_⟩))
 have own : ∀ {b : Nat}, b ∈ [h2.next] → b ∈ ([] : List Nat) ∨ H.next ≤ b := fun hb => .inr (by rw [List.mem_singleton.1 hb]; exact n2)
 exact ((T4.trans' t5 fun b hb => own hb).trans' t6 fun b hb => own hb).trans' t7 fun b hb => .inr (by rw [List.mem_singleton.1 hb]; exact Nat.le_refl _)
theorem ready_w (K : At lo H db s B) : wL n (D + 6) (d + 1) false 38 [.ptr db 0] H = some (.ret (.int .i64 (if s.p = 0 then 40 else 0)), H) := by
 refine (wL_b 38).trans ?_
 apply Wp.eq
 rw [w_snap_ready]
 unfold snap_ready
 refine Wp.outK (eqDisk db 0 H) (Wp.obind (avBool_bool _) (Wp.iff rfl (Wp.callN (on_b (n := n) (d := D + 4) K) (Wp.obind (avBool_bool _) (Wp.lett ?_)))))
 by_cases h : s.p = 0
 ·rw [if_pos h, decide_eq_false (show ¬ s.p ≠ 0 from fun hh => hh h)]
  exact Wp.ift rfl (Wp.ret ⟨rfl, rfl⟩)
 ·rw [if_neg h, decide_eq_true (show s.p ≠ 0 from h)]
  exact Wp.iff rfl (Wp.ret ⟨rfl, rfl⟩)
theorem best_ld {a b : Option (Mk × Bytes)} {b2 : Nat} {h : AHeap} (k : RowH h b2 THs (hdC 2 a ++ hdC 3 b)) : ∃ p, idxA 2 5 (.ptr b2 0) (if newB a b = true then 1 else 0) = some p ∧ ldRow h 5 p = some (hdC (if newB a b = true then 3 else 2) (bestO a b)) := by
 unfold bestO
 cases newB a b with
 | true => exact ⟨.ptr b2 (5 * 1), rfl, k.ld (o := 5 * 1) (n := 5) (show 5 * 1 + 5 ≤ 10 by decide)⟩
 | false => exact ⟨.ptr b2 (5 * 0), rfl, k.ld (o := 5 * 0) (n := 5) (show 5 * 0 + 5 ≤ 10 by decide)⟩
def loadO (s : DS) : Option (Mk × Bytes) := bestO (ofC (s.fs 2)) (ofC (s.fs 3))
theorem Load_w (K : At lo H db s B) (hp : s.p ≠ 0) (hz2 : (s.fs 2).seen.u.length ≤ 1048576) (hz3 : (s.fs 3).seen.u.length ≤ 1048576) (hF2 : FineC (s.fs 2)) (hF3 : FineC (s.fs 3)) (hn : 2000000000 < n) : ∃ H', wL n (D + 6) (d + 7) false 14 [.ptr db 0] H = some (.ret (.tup [.agg (mkC (mkO (loadO s))), strA (txO (loadO s)), .int .i64 (if (loadO s).isSome = true then 0 else 4)]), H') ∧ Tch [] H H' := by
 suffices hK : Wp (snap_Load (wL n (D + 6) (d + 6) false) n (.ptr db 0) H) fun r H' => r = .ret (.tup [.agg (mkC (mkO (loadO s))), strA (txO (loadO s)), .int .i64 (if (loadO s).isSome = true then 0 else 4)]) ∧ Tch [] H H' by
  obtain ⟨_, H', e, rfl, t⟩ := hK
  exact ⟨H', wL_snap_Load n (D + 6) (d + 6) _ e, t⟩
 unfold snap_Load
 refine Wp.mnew (Mem.nil [] H) fun h2 M2 => ?_
 have kr2 := M2.at0.1
 have l2 := M2.at0.2.1
 have t2 := M2.tch
 have n2 := t2.1
 have K2 := K.part t2 (fun _ h => nomatch h)
 have er := ready_w (n := n) (D := D) (d := d + 5) K2
 rw [if_neg hp] at er
 obtain ⟨h3, e3, t3⟩ := look_w (n := n) (D := D) (d := d) K2 hp hz2 hz3 hF2 hF3 hn
 have n3 := t3.1
 refine Wp.callN er (Wp.obind (avInt_int _ _) (Wp.lett (Wp.iff rfl (Wp.callK e3 (Wp.obind (avAgg_agg _) (Wp.mnew (Mem.nil [] h3) fun h4 M4 => ?_))))))
 rw [newP_eq h3]
 refine Wp.sa0 M4 rfl rfl rfl fun h5 M5 => Wp.lr0 M5 rfl ?_
 have t5 := M5.tch
 have n5 := t5.1
 have k5 := M5.at0.1
 obtain ⟨p, p1, p2⟩ := best_ld k5
 refine Wp.callN ((wL_b 40).trans (newest_w (n := n) (d := D + 5) 2 3 (ofC (s.fs 2)) (ofC (s.fs 3)))) (Wp.obind (avInt_int _ _) (Wp.obind p1 (Wp.obind p2 (Wp.mnew (Mem.nil [] h5) fun h6 M6 => ?_))))
 rw [newP_eq h5]
 refine Wp.sa0 M6 rfl rfl rfl fun h7 M7 => ?_
 have t7 := M7.tch
 have k7 := M7.at0.1
 have l7 := M7.at0.2.1
 have T7 := ((t2.trans t3).trans t5).trans t7
 have kr7 := ((kr2.tch t3 l2 (fun h => nomatch h)).tch t5 (by omega) (fun h => nomatch h)).tch t7 (by omega) (fun h => nomatch h)
 have hlo : bestO (ofC (s.fs 2)) (ofC (s.fs 3)) = loadO s := rfl
 rw [hlo] at k7
 refine Wp.obind (RowH.cell' k7 rfl) (Wp.obind (avBool_bool _) (Wp.lett ?_))
 rw [newP_eq H]
 have own : ∀ {b : Nat}, b ∈ [H.next] → b ∈ ([] : List Nat) ∨ H.next ≤ b := fun hb => .inr (by rw [List.mem_singleton.1 hb]; exact Nat.le_refl _)
 cases hs : (loadO s).isSome with
 | false =>
  have hnone : loadO s = none := by
   cases h : loadO s with
   | none => rfl
   | some x => rw [h] at hs; cases hs
  rw [hnone]
  exact Wp.ift rfl (Wp.stAll kr7 rfl rfl rfl fun h8 k8 t8 n8 => Wp.obind (k8.ldAll rfl) (Wp.ret ⟨rfl, T7.trans' t8 fun b hb => own hb⟩))
 | true =>
  have g2 : ldRow h7 2 (.ptr h5.next 2) = some (mkC (mkO (loadO s))) := k7.ld (o := 2) (n := 2) (show 2 + 2 ≤ 5 by decide)
  refine Wp.iff rfl (Wp.obind g2 (Wp.obind (RowH.cell' k7 rfl) (Wp.obind (avStr_str _) (Wp.stAll kr7 rfl rfl rfl fun h8 k8 t8 n8 => ?_))))
  have k78 := k7.tch t8 l7 (fun h => by have := List.mem_singleton.1 h; omega)
  exact Wp.chk (and_t (reLoad_c (by kernel_rfl) (RowH.cell' k78 rfl)) rfl) (Wp.obind (k8.ldAll rfl) (Wp.ret ⟨rfl, T7.trans' t8 fun b hb => own hb⟩))
end
end Go.Proofs.Ytpnccmlajhhpdaa
