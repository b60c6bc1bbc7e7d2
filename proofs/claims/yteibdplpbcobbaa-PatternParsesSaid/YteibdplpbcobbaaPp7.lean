/- What patternParses_proved stands on, part 7 of 8. -/
import Derived.Test.YteibdplpbcobbaaPp6
namespace Go.Proofs.Yteibdplpbcobbaa
open Go.RowKit Abs
section
variable {n d b c c1 : Nat} {h h1 h2 : AHeap} {l u : Bytes} {Q : ARes → AHeap → Prop}
theorem tch2 (t1 : Tch [b, c] h h1) (hc : c1 = c ∨ h.next ≤ c1) (t2 : Tch [b, c1] h1 h2) : Tch [b, c] h h2 :=
 t1.trans' t2 (fun x hx => by
  rcases List.mem_cons.1 hx with rfl | hx
  ·exact .inl (by simp)
  ·rcases List.mem_cons.1 hx with rfl | hx
   ·rcases hc with rfl | hc
    ·exact .inl (by simp)
    ·exact .inr hc
   ·cases hx)
theorem writeString_r (k : BldW h b c l) (hx : memB TBld h.ex = true) (hu : memB TU8 h.ex = false) (s : Bytes) (hbig : l.length + s.length ≤ 1000000000) :
  ∃ c' h', world n (d + 2) 52 [.ptr b 0, strA s] h = some (.ret (.tup [.int .i64 (lenS s), .nifc]), h') ∧ BldW h' b c' (l ++ s) ∧ (c' = c ∨ h.next ≤ c') ∧ Tch [b, c] h h' := by
 obtain ⟨h1, e1, q1, t1⟩ := copyCheck_r (n := n) (d := d) k hx
 suffices hK : Wp (world n (d + 2) 52 [.ptr b 0, strA s] h) fun r h' => ∃ c', r = .ret (.tup [.int .i64 (lenS s), .nifc]) ∧ BldW h' b c' (l ++ s) ∧ (c' = c ∨ h.next ≤ c') ∧ Tch [b, c] h h' by
  obtain ⟨_, h', e, c', rfl, q⟩ := hK
  exact ⟨c', h', e, q⟩
 rw [w_strings_Builder_WriteString]
 unfold strings_Builder_WriteString
 refine Wp.callN e1 ?_
 obtain ⟨a, buf, k1, k2, k3, k4⟩ := q1
 repeat (((with_reducible apply Wp.o); first | (with_reducible first | exact nilC_ptr _ _ | exact fldP_ptr _ _ _) | ((with_reducible apply RowH.cell'); (with_reducible assumption); rfl)))
 obtain ⟨buf', c', h2, a1, a2, a3, a4, a5⟩ := k4.append (P := Try.prog) (t := 50) (u := 9) k2 s (by kernel_rfl) (by kernel_rfl) (by kernel_rfl) (by kernel_rfl) (by rw [t1.2.1]; exact hu) hbig
 refine Wp.outK a1 ?_
 have k2' : RowH h2 b TBld [a, buf] := k1.same a5
 obtain ⟨o1, o2, _⟩ := a2.one
 rw [o2]
 repeat (((with_reducible apply Wp.o); (with_reducible first | exact nilC_ptr _ _ | exact fldP_ptr _ _ _)))
 refine Wp.st1 k2' (by simp) o1 (fun h3 r1 r2 r3 => ?_)
 have n1 := t1.1
 have n2 := a4.1
 refine Wp.ret ⟨c', rfl, ⟨a, buf', r1, by omega, k3, a2.tch r2 (fun hc => by simpa using hc)⟩, by omega, ?_⟩
 exact (t1.mono (by simp)).trans ((a4.mono (by simp)).trans (r2.mono (by simp)))
theorem hx_idx (v : Nat) (hv : v < 16) : idxS ([48, 49, 50, 51, 52, 53, 54, 55, 56, 57, 97, 98, 99, 100, 101, 102] : Bytes) (v : Int) = some (((if v < 10 then 48 + v else 87 + v : Nat)) : Int) := by
 have h : ∀ v : Fin 16, idxS ([48, 49, 50, 51, 52, 53, 54, 55, 56, 57, 97, 98, 99, 100, 101, 102] : Bytes) (v.val : Int) = some (((if v.val < 10 then 48 + v.val else 87 + v.val : Nat)) : Int) := by decide
 exact h ⟨v, hv⟩
theorem shr4 (y : Nat) : shrI .u8 (y : Int) 4 = some ((y / 16 : Nat) : Int) := by
 rw [show shrI .u8 (y : Int) 4 = some ((y : Int).fdiv 16) from rfl, Int.fdiv_eq_ediv_of_nonneg _ (by decide)]
 rfl
theorem and15 {y : Nat} (hy : y < 256) : andI .u8 (y : Int) 15 = ((y % 16 : Nat) : Int) := by
 have h : (List.range 256).all (fun y => andI .u8 (y : Int) 15 == ((y % 16 : Nat) : Int)) = true := by kernel_rfl
 exact eq_of_beq (List.all_eq_true.1 h y (List.mem_range.2 hy))
theorem sign_short {y : Nat} (h : shortB y ≠ 0) : signB y = [92, UInt8.ofNat (shortB y)] ∧ shortB y < 256 := by
 unfold shortB at h ⊢
 unfold signB
 by_cases h1 : y = 34
 ·subst h1
  exact ⟨rfl, by decide⟩
 by_cases h2 : y = 92
 ·subst h2
  exact ⟨rfl, by decide⟩
 rw [if_neg (by omega)] at h ⊢
 by_cases h3 : y = 10
 ·subst h3
  exact ⟨rfl, by decide⟩
 rw [if_neg h3] at h ⊢
 by_cases h4 : y = 13
 ·subst h4
  exact ⟨rfl, by decide⟩
 rw [if_neg h4] at h ⊢
 by_cases h5 : y = 9
 ·subst h5
  exact ⟨rfl, by decide⟩
 rw [if_neg h5] at h
 exact absurd rfl h
theorem sign_long {y : Nat} (h : shortB y = 0) : signB y = if plainB y = true then [UInt8.ofNat y] else [92, 120, hx (y / 16), hx (y % 16)] := by
 unfold shortB at h
 unfold signB
 split at h
 ·omega
 ·split at h
  ·omega
  ·split at h
   ·omega
   ·split at h
    ·omega
    ·rw [if_neg (by omega), if_neg (by omega), if_neg (by omega), if_neg (by omega), if_neg (by omega)]
theorem writeForm_r (k : BldW h b c l) (hx' : memB TBld h.ex = true) (hu : memB TU8 h.ex = false) {y : Nat} (hy : y < 256) (hbig : l.length + 4 ≤ 1000000000) :
  ∃ c' h', world n (d + 3) 30 [.ptr b 0, .int .u8 (y : Int)] h = some (.ret (.tup []), h') ∧ BldW h' b c' (l ++ signB y) ∧ (c' = c ∨ h.next ≤ c') ∧ Tch [b, c] h h' := by
 suffices hK : Wp (world n (d + 3) 30 [.ptr b 0, .int .u8 (y : Int)] h) fun r h' => ∃ c', r = .ret (.tup []) ∧ BldW h' b c' (l ++ signB y) ∧ (c' = c ∨ h.next ≤ c') ∧ Tch [b, c] h h' by
  obtain ⟨_, h', e, c', rfl, q⟩ := hK
  exact ⟨c', h', e, q⟩
 rw [w_pattern_writeForm]
 unfold pattern_writeForm
 have hs := short_w (n := n) (d := d + 1) (h := h) y
 have hp := plain_w (n := n) (d := d + 1) (h := h) y
 by_cases h0 : shortB y = 0
 ·have hsg := sign_long h0
  rw [h0] at hs
  cases hpl : plainB y with
  | true =>
   rw [hpl] at hp hsg
   rw [if_pos rfl] at hsg
   obtain ⟨c1, h1, e1, q1, o1, t1⟩ := writeByte_r (n := n) (d := d) k hx' hu hy (by omega)
   repeat (first | (with_reducible first | refine Wp.l ?_ | (apply Wp.o; first | exact avInt_int _ _ | exact avBool_bool _) | (refine Wp.ift ?_ ?_; rfl)) | ((with_reducible refine Wp.iff ?_ ?_; apply bne_f); omega) | (with_reducible apply Wp.callN; first | exact hs | exact hp | exact e1))
   exact Wp.ret ⟨c1, rfl, by rw [hsg]; exact q1, o1, t1⟩
  | false =>
   rw [hpl] at hp hsg
   rw [if_neg (by decide)] at hsg
   obtain ⟨c1, h1, e1, q1, o1, t1⟩ := writeString_r (n := n) (d := d) k hx' hu [92, 120] (by simp; omega)
   obtain ⟨c2, h2, e2, q2, o2, t2⟩ := writeByte_r (n := n) (d := d) (y := if y / 16 < 10 then 48 + y / 16 else 87 + y / 16) q1 (by rw [t1.2.1]; exact hx') (by rw [t1.2.1]; exact hu) (by split <;> omega) (by simp; omega)
   obtain ⟨c3, h3, e3, q3, o3, t3⟩ := writeByte_r (n := n) (d := d) (y := if y % 16 < 10 then 48 + y % 16 else 87 + y % 16) q2 (by rw [t2.2.1, t1.2.1]; exact hx') (by rw [t2.2.1, t1.2.1]; exact hu) (by split <;> omega) (by simp; omega)
   have i1 := hx_idx (y / 16) (by omega)
   have i2 := hx_idx (y % 16) (by omega)
   have s4 := shr4 y
   have a5 := and15 hy
   iterate 7 (first | (with_reducible first | refine Wp.l ?_ | (apply Wp.o; first | exact avInt_int _ _ | exact avBool_bool _)) | ((with_reducible refine Wp.iff ?_ ?_); first | (with_reducible rfl) | ((with_reducible apply bne_f); omega)) | (with_reducible apply Wp.callN; first | exact hs | exact hp))
   rw [a5]
   repeat (with_reducible first | refine Wp.l ?_ | (apply Wp.o; first | exact i1 | exact i2 | exact s4) | (apply Wp.callN; first | exact e1 | exact e2 | exact e3))
   have n1 := t1.1
   have n2 := t2.1
   refine Wp.ret ⟨c3, rfl, ?_, by omega, tch2 t1 o1 (tch2 t2 o2 t3)⟩
   rw [hsg]
   simpa [hx] using q3
 ·obtain ⟨hsg, hlt⟩ := sign_short h0
  obtain ⟨c1, h1, e1, q1, o1, t1⟩ := writeByte_r (n := n) (d := d) (y := 92) k hx' hu (by decide) (by omega)
  obtain ⟨c2, h2, e2, q2, o2, t2⟩ := writeByte_r (n := n) (d := d) (y := shortB y) q1 (by rw [t1.2.1]; exact hx') (by rw [t1.2.1]; exact hu) hlt (by simp; omega)
  rw [show ((92 : Nat) : Int) = 92 from rfl] at e1
  repeat (first | (with_reducible first | refine Wp.l ?_ | (apply Wp.o; exact avInt_int _ _)) | ((with_reducible refine Wp.ift ?_ ?_; apply bne_t); omega) | (with_reducible apply Wp.callN; first | exact hs | exact e1 | exact e2))
  have n1 := t1.1
  refine Wp.ret ⟨c2, rfl, ?_, by omega, tch2 t1 o1 t2⟩
  rw [hsg]
  simpa using q2
def quoteB (u : Bytes) : Bytes := 34 :: (u.flatMap fun a => signB a.toNat) ++ [34]
theorem sign_len (c : Nat) : (signB c).length ≤ 4 := by
 rcases cls c with ⟨e, h, _⟩ | ⟨h, _⟩ | ⟨h, _⟩ <;> rw [h] <;> simp
theorem flat_len (w : Bytes) : (w.flatMap fun a => signB a.toNat).length ≤ 4 * w.length := by
 induction w with
 | nil => simp
 | cons a w ih =>
  rw [List.flatMap_cons, List.length_append, List.length_cons]
  have := sign_len a.toNat
  omega
theorem quote_loop {k11 : AHeap → R} {hb h0 : AHeap} (hu' : u.length ≤ 100000000) :
  ∀ (f i : Nat) (c : Nat) (H : AHeap), u.length < f + i → i ≤ u.length → BldW H hb.next c (34 :: ((u.take i).flatMap fun a => signB a.toNat)) → Tch [hb.next, c] h0 H → memB TBld H.ex = true → memB TU8 H.ex = false → h0.next ≤ hb.next → h0.next ≤ c →
   (∀ c' H', BldW H' hb.next c' (34 :: (u.flatMap fun a => signB a.toNat)) → Tch [] h0 H' → memB TBld H'.ex = true → memB TU8 H'.ex = false → h0.next ≤ c' → Wp (k11 H') Q) →
   Wp (pattern_Quote_L0 (world n (d + 3)) u hb k11 f (i : Int) H) Q
 | 0, i, c, H, hf, hi, k, t, hx', hu, hn1, hn2, hk => by omega
 | f + 1, i, c, H, hf, hi, k, t, hx', hu, hn1, hn2, hk => by
  rw [pattern_Quote_L0_s]
  unfold pattern_Quote_L0b
  have lu := lenS_nat u
  by_cases hl : i < u.length
  ·have hx : idxS u (i : Int) = some ((u[i]).toNat : Int) := idxS_nat hl
   have hfl := flat_len (u.take i)
   rw [List.length_take] at hfl
   obtain ⟨c1, h1, e1, q1, o1, t1⟩ := writeForm_r (n := n) (d := d) k hx' hu (y := (u[i]).toNat) (u[i]).toNat_lt (by simp only [List.length_cons]; omega)
   repeat (first | ((with_reducible refine Wp.lettw ?_ ?_ ?_); omega; omega) | (with_reducible first | refine Wp.l ?_ | (apply Wp.o; exact hx)) | ((with_reducible refine Wp.ift ?_ ?_; apply decide_eq_true); omega) | (with_reducible apply Wp.callN; exact e1) | rw [newP_eq])
   rw [show (i : Int) + 1 = ((i + 1 : Nat) : Int) by omega]
   have nt := t.1
   have nt1 := t1.1
   refine quote_loop hu' f (i + 1) c1 h1 (by omega) (by omega) ?_ ?_ (by rw [t1.2.1]; exact hx') (by rw [t1.2.1]; exact hu) hn1 (by omega) hk
   ·rw [List.take_succ_eq_append_getElem hl, List.flatMap_append]
    simpa using q1
   ·exact (t.mono (S' := []) (by intro b hb; simp at hb; omega)).trans' t1 (by intro b hb; simp at hb; omega)|>.mono (by simp)
  ·have hi' : i = u.length := by omega
   rw [hi', List.take_length] at k
   repeat (first | (with_reducible refine Wp.l ?_) | ((with_reducible refine Wp.iff ?_ ?_; apply decide_eq_false); omega))
   exact hk c H k (t.mono (by intro b hb; simp at hb; omega)) hx' hu hn2
theorem quote_w (hu' : u.length ≤ 100000000) (hn : u.length < n) (hxB : memB TBld h.ex = true) (hx8 : memB TU8 h.ex = false) : world n (d + 4) 15 [strA u] h = some (.ret (strA (quoteB u)), h) := by
 apply Wp.eq
 rw [w_pattern_Quote]
 refine Wp.gc ?_
 suffices hK : Wp (pattern_Quote (world n (d + 3)) n u h) fun r h' => r = .ret (strA (quoteB u)) ∧ Tch [] h h' from hK.mono fun r h' ⟨e, t⟩ => ⟨t.above, by rw [e]; rfl, e, rfl⟩
 unfold pattern_Quote
 have k0 := BldR.new TBld TU8 h
 have t0 : Tch [] h (newH h TBld [.nilp, .nsl]) := Tch.newH _ _ _ _
 obtain ⟨c1, h1, e1, q1, o1, t1⟩ := writeByte_r (n := n) (d := d + 1) (y := 34) k0 (by rw [t0.2.1]; exact hxB) (by rw [t0.2.1]; exact hx8) (by decide) (by simp)
 rw [show ((34 : Nat) : Int) = 34 from rfl] at e1
 refine Wp.l ?_
 rw [newP_eq]
 refine Wp.callN e1 ?_
 refine Wp.join0 (fun k hk => ?_)
 have n0 := next_newH h TBld [.nilp, .nsl]
 have n1 := t1.1
 refine quote_loop (h0 := h) hu' n 0 c1 h1 (by omega) (by omega) (by simpa using q1) ?_ (by rw [t1.2.1, t0.2.1]; exact hxB) (by rw [t1.2.1, t0.2.1]; exact hx8) (Nat.le_refl _) (by omega) ?_
 ·exact ((t0.trans' t1 (S := []) (by intro b hb; simp at hb; omega))).mono (by simp)
 ·intro c2 H2 q2 t2 hxB2 hx82 hc2
  rw [hk]
  have hfl := flat_len u
  obtain ⟨c3, h3, e3, q3, o3, t3⟩ := writeByte_r (n := n) (d := d + 1) (y := 34) q2 hxB2 hx82 (by decide) (by simp only [List.length_cons]; omega)
  rw [show ((34 : Nat) : Int) = 34 from rfl] at e3
  obtain ⟨h4, e4, t4⟩ := string_r (n := n) (d := d + 2) q3 (by simp only [List.length_cons, List.length_append, List.length_nil]; omega)
  repeat (with_reducible first | (apply Wp.o; exact avStr_str _) | (apply Wp.callN; first | exact e3 | exact e4))
  have nt2 := t2.1
  refine Wp.ret ⟨rfl, ?_⟩
  exact (t2.trans' t3 (by intro b hb; simp at hb; omega)).trans' t4 (by intro b hb; simp at hb; omega)
end
def addW (w : List Nat) (c : Nat) : List Nat := w.set (c / 64) (w.getD (c / 64) 0 ||| 2 ^ (c % 64))
def spanW (w : List Nat) (lo : Nat) : Nat → List Nat
 | 0 => w
 | m + 1 => spanW (addW w lo) (lo + 1) m
def othersW (w : List Nat) : List Nat := w.map fun x => x ^^^ 18446744073709551615
def zeroW : List Nat := [0, 0, 0, 0]
structure WordsOk (w : List Nat) : Prop where
 len : w.length = 4
 small : ∀ x ∈ w, x < 18446744073709551616
theorem WordsOk.get {w : List Nat} (k : WordsOk w) (i : Nat) : w.getD i 0 < 18446744073709551616 := by
 rw [List.getD_eq_getElem?_getD]
 cases hx : w[i]? with
 | none => decide
 | some x => exact k.small x (List.mem_of_getElem? hx)
theorem zeroW_ok : WordsOk zeroW := ⟨rfl, by decide⟩
theorem or_small {a b : Nat} (ha : a < 18446744073709551616) (hb : b < 18446744073709551616) : a ||| b < 18446744073709551616 := by
 have := Nat.or_lt_two_pow (n := 64) (x := a) (y := b) (by omega) (by omega)
 omega
theorem pow_small {k : Nat} (h : k < 64) : 2 ^ k < 18446744073709551616 := by
 have := Nat.pow_lt_pow_right (a := 2) (by decide) h
 omega
theorem addW_ok {w : List Nat} (k : WordsOk w) (c : Nat) : WordsOk (addW w c) := by
 refine ⟨by simp [addW, k.len], fun x hx => ?_⟩
 unfold addW at hx
 rcases List.mem_or_eq_of_mem_set hx with hx | rfl
 ·exact k.small x hx
 ·exact or_small (k.get _) (pow_small (Nat.mod_lt _ (by decide)))
theorem spanW_ok : ∀ (m : Nat) {w : List Nat} (_ : WordsOk w) (lo : Nat), WordsOk (spanW w lo m)
 | 0, _, k, _ => k
 | m + 1, _, k, lo => spanW_ok m (addW_ok k lo) (lo + 1)
theorem othersW_ok {w : List Nat} (k : WordsOk w) : WordsOk (othersW w) := by
 refine ⟨by simp [othersW, k.len], fun x hx => ?_⟩
 unfold othersW at hx
 obtain ⟨y, hy, rfl⟩ := List.mem_map.1 hx
 have := Nat.xor_lt_two_pow (n := 64) (x := y) (y := 18446744073709551615) (by have := k.small y hy; omega) (by omega)
 omega
noncomputable def wordsA (w : List Nat) : List AV := w.map fun (x : Nat) => AV.int .u64 (x : Int)
theorem wordsA_len (w : List Nat) : (wordsA w).length = w.length := by simp [wordsA]
theorem wordsA_one (w : List Nat) : (wordsA w).all AV.one = true := by
 simp only [wordsA, List.all_map, List.all_eq_true]
 intro x _
 rfl
inductive Nd where
 | mk (op : Nat) (w : List Nat) (kids : List Nd)
abbrev TNode : Nat := 41
noncomputable def nodeC (op : Nat) (w : List Nat) (kv : AV) : List AV := .int .i64 (op : Int) :: (wordsA w ++ [kv])
mutual
inductive NodeT : Nd → List AV → List RowT → Prop
 | mk {op : Nat} {w : List Nat} {kids : List Nd} {kc : List (List AV)} {kv : AV} {T0 T1 : List RowT} (hw : WordsOk w) (g : GrowT TNode 6 kc kv T0) (k : KidsT kids kc T1) : NodeT (.mk op w kids) (nodeC op w kv) (T0 ++ T1)
inductive KidsT : List Nd → List (List AV) → List RowT → Prop
 | nil : KidsT [] [] []
 | cons {t : Nd} {c : List AV} {T : List RowT} {ts : List Nd} {cs : List (List AV)} {Ts : List RowT} (k : NodeT t c T) (ks : KidsT ts cs Ts) : KidsT (t :: ts) (c :: cs) (T ++ Ts)
end
theorem KidsT.snoc {t : Nd} {c : List AV} {T : List RowT} (h : NodeT t c T) : ∀ {ts : List Nd} {cs : List (List AV)} {Ts : List RowT}, KidsT ts cs Ts → KidsT (ts ++ [t]) (cs ++ [c]) (Ts ++ T)
 | _, _, _, .nil => by
  have := KidsT.cons h .nil
  rw [List.append_nil] at this
  exact this
 | _, _, _, .cons k ks => by
  have := KidsT.cons k (KidsT.snoc h ks)
  rw [← List.append_assoc] at this
  exact this
theorem KidsT.len : ∀ {ts : List Nd} {cs : List (List AV)} {Ts : List RowT}, KidsT ts cs Ts → cs.length = ts.length
 | _, _, _, .nil => rfl
 | _, _, _, .cons _ ks => by rw [List.length_cons, List.length_cons, ks.len]
theorem KidsT.one {t : Nd} {cs : List (List AV)} {Ts : List RowT} (h : KidsT [t] cs Ts) : ∃ c, cs = [c] ∧ NodeT t c Ts := by
 cases h with
 | cons k ks =>
  cases ks
  refine ⟨_, rfl, ?_⟩
  rw [List.append_nil]
  exact k
theorem NodeT.len {t : Nd} {c : List AV} {T : List RowT} (h : NodeT t c T) : c.length = 6 := by
 cases h with
 | mk hw g k => simp [nodeC, wordsA_len, hw.len]
theorem NodeT.one {t : Nd} {c : List AV} {T : List RowT} (h : NodeT t c T) : c.all AV.one = true := by
 cases h with
 | mk hw g k =>
  simp only [nodeC, List.all_cons, List.all_append, wordsA_one, g.one.1, List.all_nil, Bool.and_true]
  rfl
theorem NodeT.leaf (op : Nat) {w : List Nat} (hw : WordsOk w) : NodeT (.mk op w []) (nodeC op w .nsl) [] := NodeT.mk (T0 := []) (T1 := []) hw (GrowT.nil _ _) .nil
def oneN (c : Nat) : Nd := .mk 2 (spanW zeroW c 1) []
def anyW : List Nat := spanW zeroW 0 256
theorem anyW_ok : WordsOk anyW := spanW_ok 256 zeroW_ok 0
theorem anyW_eq : spanW zeroW 0 (255 + 1 - 0) = anyW := rfl
attribute [irreducible] anyW
def anyN : Nd := .mk 2 anyW []
def overN (op : Nat) (l : List Nd) : Nd := .mk op zeroW l
def joinN (op : Nat) : List Nd → Nd
 | [] => .mk 1 zeroW []
 | [t] => t
 | l => overN op l
def memB2 (u : Bytes) (i : Nat) : Except Nat (Nat × Nat) := match at? u i with
 | none => .error i
 | some c => if c = 92 then (match at? u (i + 1) with
   | none => .error (i + 1)
   | some e => .ok (e, i + 2))
  else if c = 91 ∨ c = 93 ∨ c = 94 ∨ c = 45 then .error i else .ok (c, i + 1)
def memberF (u : Bytes) (w : List Nat) (i : Nat) : Except Nat (List Nat × Nat) := match memB2 u i with
 | .error q => .error q
 | .ok (c, j) => if at? u j = some 45 then (match memB2 u (j + 1) with
   | .error q => .error q
   | .ok (e, k) => if e < c then .error (k - 1) else .ok (spanW w c (e + 1 - c), k))
  else .ok (spanW w c 1, j)
inductive LoopP (u : Bytes) : List Nat → Nat → Except Nat (List Nat × Nat) → Prop
 | done {w : List Nat} {j : Nat} (n : at? u j = some 93) : LoopP u w j (.ok (w, j + 1))
 | bad {w : List Nat} {j q : Nat} (n : at? u j ≠ some 93) (h : memberF u w j = .error q) : LoopP u w j (.error q)
 | more {w w' : List Nat} {j k : Nat} {r : Except Nat (List Nat × Nat)} (n : at? u j ≠ some 93) (h : memberF u w j = .ok (w', k)) (m : LoopP u w' k r) : LoopP u w j r
def setB (u : Bytes) (i : Nat) : Nat := if at? u i = some 94 then i + 1 else i
def othersR (u : Bytes) (i : Nat) : Except Nat (List Nat × Nat) → Except Nat (List Nat × Nat)
 | .ok (w, j) => .ok (if at? u i = some 94 then othersW w else w, j)
 | .error q => .error q
inductive SetP (u : Bytes) (i : Nat) : Except Nat (List Nat × Nat) → Prop
 | bad {q : Nat} (h : memberF u zeroW (setB u i) = .error q) : SetP u i (.error q)
 | set {w : List Nat} {j : Nat} {r : Except Nat (List Nat × Nat)} (h : memberF u zeroW (setB u i) = .ok (w, j)) (m : LoopP u w j r) : SetP u i (othersR u i r)
def signOp : Nat → Nat
 | 42 => 5
 | 43 => 6
 | 63 => 7
 | _ => 0
def signAt (u : Bytes) (j : Nat) : Nat := match at? u j with
 | some c => signOp c
 | none => 0
def badAtom (c : Nat) : Prop := c = 124 ∨ c = 41 ∨ c = 42 ∨ c = 43 ∨ c = 63 ∨ c = 93
def stops (u : Bytes) (i : Nat) : Prop := at? u i = none ∨ at? u i = some 124 ∨ at? u i = some 41
abbrev Res := Except Nat (Nd × Nat)
mutual
inductive AltP (u : Bytes) : List Nd → Nat → Res → Prop
 | bad {l : List Nd} {i q : Nat} (h : RowP u [] i (.error q)) : AltP u l i (.error q)
 | last {l : List Nd} {i j : Nat} {t : Nd} (h : RowP u [] i (.ok (t, j))) (n : at? u j ≠ some 124) : AltP u l i (.ok (joinN 4 (l ++ [t]), j))
 | more {l : List Nd} {i j : Nat} {t : Nd} {r : Res} (h : RowP u [] i (.ok (t, j))) (n : at? u j = some 124) (m : AltP u (l ++ [t]) (j + 1) r) : AltP u l i r
inductive RowP (u : Bytes) : List Nd → Nat → Res → Prop
 | stop {l : List Nd} {i : Nat} (s : stops u i) : RowP u l i (.ok (joinN 3 l, i))
 | bad {l : List Nd} {i q : Nat} (s : ¬ stops u i) (h : PartP u i (.error q)) : RowP u l i (.error q)
 | more {l : List Nd} {i j : Nat} {t : Nd} {r : Res} (s : ¬ stops u i) (h : PartP u i (.ok (t, j))) (m : RowP u (l ++ [t]) j r) : RowP u l i r
inductive PartP (u : Bytes) : Nat → Res → Prop
 | bad {i q : Nat} (h : AtomP u i (.error q)) : PartP u i (.error q)
 | bare {i j : Nat} {t : Nd} (h : AtomP u i (.ok (t, j))) (n : signAt u j = 0) : PartP u i (.ok (t, j))
 | sign {i j : Nat} {t : Nd} (h : AtomP u i (.ok (t, j))) (n : signAt u j ≠ 0) : PartP u i (.ok (overN (signAt u j) [t], j + 1))
inductive AtomP (u : Bytes) : Nat → Res → Prop
 | none {i : Nat} (h : at? u i = none) : AtomP u i (.error i)
 | open_bad {i q : Nat} (h : at? u i = some 40) (m : AltP u [] (i + 1) (.error q)) : AtomP u i (.error q)
 | open_end {i j : Nat} {t : Nd} (h : at? u i = some 40) (m : AltP u [] (i + 1) (.ok (t, j))) (n : at? u j ≠ some 41) : AtomP u i (.error j)
 | group {i j : Nat} {t : Nd} (h : at? u i = some 40) (m : AltP u [] (i + 1) (.ok (t, j))) (n : at? u j = some 41) : AtomP u i (.ok (t, j + 1))
 | any {i : Nat} (h : at? u i = some 46) : AtomP u i (.ok (anyN, i + 1))
 | set_bad {i q : Nat} (h : at? u i = some 91) (m : SetP u (i + 1) (.error q)) : AtomP u i (.error q)
 | set {i j : Nat} {w : List Nat} (h : at? u i = some 91) (m : SetP u (i + 1) (.ok (w, j))) : AtomP u i (.ok (.mk 2 w [], j))
 | sl_end {i : Nat} (h : at? u i = some 92) (n : at? u (i + 1) = Option.none) : AtomP u i (.error (i + 1))
 | sl {i c : Nat} (h : at? u i = some 92) (n : at? u (i + 1) = some c) : AtomP u i (.ok (oneN c, i + 2))
 | bad {i c : Nat} (h : at? u i = some c) (b : badAtom c) : AtomP u i (.error i)
 | one {i c : Nat} (h : at? u i = some c) (b : ¬ badAtom c) (n : c ≠ 40 ∧ c ≠ 46 ∧ c ≠ 91 ∧ c ≠ 92) : AtomP u i (.ok (oneN c, i + 1))
end
def StepN (b : Nat) (u : Bytes) (h : AHeap) (x : R) : Res → Prop
 | .ok (t, p) => ∃ c T h', x = some (.ret (.agg c), h') ∧ NodeT t c T ∧ Mem [b] h h' ((b, 70, rdP u p) :: T)
 | .error q => ∃ h' p, x = some (.panic (PanA 6 q), h') ∧ Rd h' b u p ∧ Tch [b] h h'
theorem orI_nat {x y : Nat} (hx : x < 18446744073709551616) (hy : y < 18446744073709551616) : orI .u64 (x : Int) (y : Int) = ((x ||| y : Nat) : Int) := by
 have e : (BitVec.ofInt 64 (x : Int) ||| BitVec.ofInt 64 (y : Int)).toNat = x ||| y := by
  rw [BitVec.toNat_or, BitVec.toNat_ofInt, BitVec.toNat_ofInt]
  congr 1 <;> omega
 unfold orI
 show IntKind.u64.wrap (((BitVec.ofInt 64 (x : Int) ||| BitVec.ofInt 64 (y : Int)).toNat : Nat) : Int) = _
 rw [e, wrap_u64_mod]
 have := or_small hx hy
 omega
theorem xorI_nat {x y : Nat} (hx : x < 18446744073709551616) (hy : y < 18446744073709551616) : xorI .u64 (x : Int) (y : Int) = ((x ^^^ y : Nat) : Int) := by
 have e : (BitVec.ofInt 64 (x : Int) ^^^ BitVec.ofInt 64 (y : Int)).toNat = x ^^^ y := by
  rw [BitVec.toNat_xor, BitVec.toNat_ofInt, BitVec.toNat_ofInt]
  congr 1 <;> omega
 unfold xorI
 show IntKind.u64.wrap (((BitVec.ofInt 64 (x : Int) ^^^ BitVec.ofInt 64 (y : Int)).toNat : Nat) : Int) = _
 rw [e, wrap_u64_mod]
 have := Nat.xor_lt_two_pow (n := 64) (x := x) (y := y) (by omega) (by omega)
 omega
theorem shlI_one {k : Nat} (h : k < 64) : shlI .u64 1 (k : Int) = some ((2 ^ k : Nat) : Int) := by
 unfold shlI
 rw [if_neg (by omega)]
 have e : min ((k : Int).toNat) IntKind.u64.bits = k := by
  show min ((k : Int).toNat) 64 = k
  omega
 rw [e, wrap_u64_mod, Int.one_mul]
 have := pow_small h
 have e2 : ((2 : Int) ^ k) = ((2 ^ k : Nat) : Int) := by push_cast; rfl
 rw [e2]
 generalize 2 ^ k = z at this
 congr 1
 omega
theorem quoI_64 {c : Nat} (h : c < 1000) : quoI .i64 (c : Int) 64 = some ((c / 64 : Nat) : Int) := by
 unfold quoI
 rw [if_neg (by decide), Int.tdiv_eq_ediv_of_nonneg (by omega), wrap_i64 (by omega) (by omega)]
 congr 1
theorem remI_64 {c : Nat} : remI .i64 (c : Int) 64 = some ((c % 64 : Nat) : Int) := by
 unfold remI
 rw [if_neg (by decide), Int.tmod_eq_emod_of_nonneg (by omega)]
 congr 1
theorem idxA_ptr {n b o i : Nat} (h : i < n) : idxA n 1 (.ptr b o) (i : Int) = some (.ptr b (o + i)) := by
 have e : Nat.blt i n = true := by simpa using h
 show (match Nat.blt i n with | true => some (AV.ptr b (o + i * 1)) | false => none) = _
 rw [e, Nat.mul_one]
section
variable {n d b o p : Nat} {h : AHeap} {u : Bytes} {Q : ARes → AHeap → Prop} {pre post : List AV} {w : List Nat} {e : TypeId}
theorem get_words {i : Nat} (hi : i < w.length) : (pre ++ (wordsA w ++ post))[pre.length + i]? = some (.int .u64 (w.getD i 0 : Int)) := by
 rw [List.getElem?_append_right (by omega), show pre.length + i - pre.length = i by omega, List.getElem?_append_left (by rw [wordsA_len]; exact hi)]
 unfold wordsA
 rw [List.getElem?_map, List.getD_eq_getElem?_getD, List.getElem?_eq_getElem hi]
 rfl
theorem set_words {i x : Nat} (hi : i < w.length) : (pre ++ (wordsA w ++ post)).set (pre.length + i) (.int .u64 (x : Int)) = pre ++ (wordsA (w.set i x) ++ post) := by
 rw [List.set_append_right _ _ (by omega), show pre.length + i - pre.length = i by omega, List.set_append_left _ _ (by rw [wordsA_len]; exact hi)]
 unfold wordsA
 rw [List.map_set]
theorem span_loop {k4 : AHeap → R} (hpre : pre.length = o) : ∀ (m f lo : Nat) (w : List Nat) (H : AHeap), m < f → lo + m ≤ 256 → WordsOk w → RowH H b e (pre ++ (wordsA w ++ post)) →
   (∀ H', RowH H' b e (pre ++ (wordsA (spanW w lo m) ++ post)) → Tch [b] H H' → Wp (k4 H') Q) → Wp (pattern_addSpan_L0 (.ptr b o) ((lo + m : Nat) - 1 : Int) k4 f (lo : Int) H) Q
 | _, 0, _, _, _, hf, _, _, _, _ => by omega
 | 0, f + 1, lo, w, H, hf, hm, hw, k, hk => by
  rw [pattern_addSpan_L0_s]
  unfold pattern_addSpan_L0b
  repeat (first | ((with_reducible refine Wp.lettw ?_ ?_ ?_); omega; omega) | (with_reducible refine Wp.l ?_) | ((with_reducible refine Wp.iff ?_ ?_; apply decide_eq_false); omega))
  exact hk H k (Tch.refl _ _)
 | m + 1, f + 1, lo, w, H, hf, hm, hw, k, hk => by
  rw [pattern_addSpan_L0_s]
  unfold pattern_addSpan_L0b
  have hi : lo / 64 < 4 := by omega
  have hl : lo / 64 < w.length := by rw [hw.len]; exact hi
  have hc := get_words (pre := pre) (post := post) hl
  have e1 := quoI_64 (c := lo) (by omega)
  have e2 := idxA_ptr (b := b) (o := o) hi
  have e3 := remI_64 (c := lo)
  have e4 := shlI_one (k := lo % 64) (Nat.mod_lt _ (by decide))
  rw [hpre] at hc
  have e5 := RowH.cell' k hc
  repeat (first | ((with_reducible refine Wp.lettw ?_ ?_ ?_); omega; omega) | (with_reducible first | refine Wp.l ?_ | (apply Wp.o; first | exact e1 | exact e2 | exact e3 | exact e4 | exact e5 | exact avInt_int _ _ | exact nilC_ptr _ _)) | ((with_reducible refine Wp.ift ?_ ?_; apply decide_eq_true); omega))
  rw [orI_nat (hw.get _) (pow_small (Nat.mod_lt _ (by decide)))]
  refine Wp.st1 k (by simp [wordsA_len]; omega) rfl fun h' k' t' _ => ?_
  rw [← hpre, set_words hl] at k'
  repeat (((with_reducible refine Wp.lettw ?_ ?_ ?_); omega; omega))
  have eh : ((lo + (m + 1) : Nat) - 1 : Int) = ((lo + 1 + m : Nat) - 1 : Int) := by omega
  have el : (lo : Int) + 1 = ((lo + 1 : Nat) : Int) := by omega
  rw [eh, el]
  exact span_loop hpre m f (lo + 1) (addW w lo) h' (by omega) (by omega) (addW_ok hw lo) k' fun H' k2 t2 => hk H' k2 (t'.trans t2)
theorem addSpan_r (hpre : pre.length = o) (hn : 300 < n) {lo hi : Nat} (h1 : lo ≤ hi) (h2 : hi < 256) (hw : WordsOk w) (k : RowH h b e (pre ++ (wordsA w ++ post))) : ∃ h', world n (d + 1) 84 [.ptr b o, .int .u8 (lo : Int), .int .u8 (hi : Int)] h = some (.ret (.tup []), h') ∧ RowH h' b e (pre ++ (wordsA (spanW w lo (hi + 1 - lo)) ++ post)) ∧ Tch [b] h h' := by
 apply Wp.ex
 rw [w_pattern_addSpan]
 unfold pattern_addSpan
 (((with_reducible refine Wp.lettw ?_ ?_ ?_); omega; omega))
 ((with_reducible refine Wp.join0 (fun _ _ => ?_)))
 rename_i k4 ek4
 have eh : (hi : Int) = ((lo + (hi + 1 - lo) : Nat) - 1 : Int) := by omega
 rw [eh]
 refine span_loop hpre (hi + 1 - lo) n lo w h (by omega) (by omega) hw k fun H' k2 t2 => ?_
 repeat ((with_reducible refine Wp.go0 (by assumption) ?_))
 exact Wp.ret ⟨rfl, k2, t2⟩
end
abbrev TNodes : Nat := 39
theorem wordsA_scal : ∀ (w : List Nat), AV.scalL (wordsA w ++ [.nsl]) = true
 | [] => rfl
 | _ :: w => wordsA_scal w
theorem nodeC_scal (op : Nat) (w : List Nat) : (AV.agg (nodeC op w .nsl)).scal = true := wordsA_scal w
theorem bldOver0 (op : Int) : bldS Try.prog TNode [(0, .int .i64 op), (2, .nsl)] = some [.int .i64 op, .int .u64 0, .int .u64 0, .int .u64 0, .int .u64 0, .nsl] := by kernel_rfl
theorem bldOver1 (op : Int) (c m : Nat) : bldS Try.prog TNode [(0, .int .i64 op), (2, .sl c 0 m 6)] = some [.int .i64 op, .int .u64 0, .int .u64 0, .int .u64 0, .int .u64 0, .sl c 0 m 6] := by kernel_rfl
theorem bldSet (a b c d : Int) : bldS Try.prog TNode [(0, .int .i64 2), (1, .agg [.int .u64 a, .int .u64 b, .int .u64 c, .int .u64 d])] = some [.int .i64 2, .int .u64 a, .int .u64 b, .int .u64 c, .int .u64 d, .nsl] := by kernel_rfl
theorem bldNode (h : AHeap) (op a b c d : Int) (kv : AV) : bldSl Try.prog h TNodes 1 [(0, .agg [.int .i64 op, .int .u64 a, .int .u64 b, .int .u64 c, .int .u64 d, kv])] = outNewS h TNode [.int .i64 op, .int .u64 a, .int .u64 b, .int .u64 c, .int .u64 d, kv] 1 6 := by kernel_rfl
theorem words4 {w : List Nat} (k : WordsOk w) : ∃ a b c d, w = [a, b, c, d] := by
 match w, k.len with
 | [a, b, c, d], _ => exact ⟨a, b, c, d, rfl⟩
theorem NodeT.bld {t : Nd} {c : List AV} {T : List RowT} (k : NodeT t c T) (h : AHeap) : bldSl Try.prog h TNodes 1 [(0, .agg c)] = outNewS h TNode c 1 6 := by
 cases k with
 | mk hw g ks =>
  obtain ⟨a, b, c, d, rfl⟩ := words4 hw
  exact bldNode h _ _ _ _ _ _
theorem setBld {w : List Nat} (k : WordsOk w) : bldS Try.prog TNode [(0, .int .i64 2), (1, .agg (wordsA w))] = some (nodeC 2 w .nsl) := by
 obtain ⟨a, b, c, d, rfl⟩ := words4 k
 exact bldSet _ _ _ _
section
variable {n d b p : Nat} {h h0 : AHeap} {u : Bytes} {Q : ARes → AHeap → Prop} {S : List Nat} {xs T T0 T1 : List RowT} {kc : List (List AV)} {kv : AV} {l : List Nd}
theorem overBld (g : GrowT TNode 6 kc kv T) (op : Nat) : bldS Try.prog TNode [(0, .int .i64 (op : Int)), (2, kv)] = some (nodeC op zeroW kv) := by
 rcases g.2 with ⟨_, rfl, _⟩ | ⟨_, c, rfl, _⟩
 ·exact bldOver0 _
 ·exact bldOver1 _ _ _
theorem nodeC_len {op : Nat} {w : List Nat} (hw : WordsOk w) : (nodeC op w kv).length = 6 := by simp [nodeC, wordsA_len, hw.len]
theorem nodeC_one {op : Nat} {w : List Nat} (hk : kv.one = true) : (nodeC op w kv).all AV.one = true := by
 simp only [nodeC, List.all_cons, List.all_append, wordsA_one, hk, List.all_nil, Bool.and_true]
 rfl
theorem oneByte_w (hn : 300 < n) {c : Nat} (hc : c < 256) : world n (d + 2) 78 [.int .u8 (c : Int)] h = some (.ret (.agg (nodeC 2 (spanW zeroW c 1) .nsl)), h) := by
 apply Wp.eq
 rw [w_pattern_oneByte]
 refine Wp.gc ?_
 suffices hK : Wp (pattern_oneByte (world n (d + 1)) n c h) fun r h' => r = .ret (.agg (nodeC 2 (spanW zeroW c 1) .nsl)) ∧ Tch [] h h' from hK.mono fun r h' ⟨e, t⟩ => ⟨t.above, by rw [e]; exact nodeC_scal _ _, e, rfl⟩
 unfold pattern_oneByte
 have Mx := Mem.nil [] h
 repeat (first | ((with_reducible apply Wp.sa0 Mx); rfl; rfl; (rfl); clear Mx; intro _ Mx) | ((with_reducible apply Wp.mnew Mx); clear Mx; intro _ Mx) | rw [newP_eq])
 have k0 : RowH _ _ _ ([AV.int .i64 2] ++ (wordsA zeroW ++ [.nsl])) := Mx.at0.1
 obtain ⟨h5, e5, k5, t5⟩ := addSpan_r (n := n) (d := d) rfl hn (Nat.le_refl c) hc zeroW_ok k0
 refine Wp.callN e5 ?_
 have Mz := Mem.upd (xs := []) Mx t5 k5
 clear Mx
 have Mx := Mz
 clear Mz k0 k5
 rw [show c + 1 - c = 1 by omega] at Mx
 have ho := nodeC_one (kv := .nsl) (op := 2) (w := spanW zeroW c 1) rfl
 have hl : ([AV.int .i64 2] ++ (wordsA (spanW zeroW c 1) ++ [AV.nsl])).length = 6 := nodeC_len (op := 2) (spanW_ok 1 zeroW_ok c)
 refine Wp.lr0 Mx hl ?_
 refine Wp.sa1 Mx hl rfl ho fun h6 Mz => ?_
 refine Wp.lr1 Mz hl ?_
 exact Wp.ret ⟨rfl, Mz.tch⟩
theorem anyByte_w (hn : 300 < n) : world n (d + 2) 77 [] h = some (.ret (.agg (nodeC 2 (anyW) .nsl)), h) := by
 apply Wp.eq
 rw [w_pattern_anyByte]
 refine Wp.gc ?_
 suffices hK : Wp (pattern_anyByte (world n (d + 1)) n h) fun r h' => r = .ret (.agg (nodeC 2 (anyW) .nsl)) ∧ Tch [] h h' from hK.mono fun r h' ⟨e, t⟩ => ⟨t.above, by rw [e]; exact nodeC_scal _ _, e, rfl⟩
 unfold pattern_anyByte
 have Mx := Mem.nil [] h
 repeat (first | ((with_reducible apply Wp.sa0 Mx); rfl; rfl; (rfl); clear Mx; intro _ Mx) | ((with_reducible apply Wp.mnew Mx); clear Mx; intro _ Mx) | rw [newP_eq])
 have k0 : RowH _ _ _ ([AV.int .i64 2] ++ (wordsA zeroW ++ [.nsl])) := Mx.at0.1
 obtain ⟨h5, e5, k5, t5⟩ := addSpan_r (n := n) (d := d) (lo := 0) (hi := 255) rfl hn (by omega) (by omega) zeroW_ok k0
 refine Wp.callN e5 ?_
 have Mz := Mem.upd (xs := []) Mx t5 k5
 clear Mx
 have Mx := Mz
 clear Mz k0 k5
 rw [anyW_eq] at Mx
 have ho := nodeC_one (kv := .nsl) (op := 2) (w := anyW) rfl
 have hl : ([AV.int .i64 2] ++ (wordsA (anyW) ++ [AV.nsl])).length = 6 := nodeC_len (op := 2) anyW_ok
 refine Wp.lr0 Mx hl ?_
 refine Wp.sa1 Mx hl rfl ho fun h6 Mz => ?_
 refine Wp.lr1 Mz hl ?_
 exact Wp.ret ⟨rfl, Mz.tch⟩
theorem over_r (g : GrowT TNode 6 kc kv T) (op : Nat) : ∃ h', world n (d + 1) 76 [.int .i64 (op : Int), kv] h = some (.ret (.agg (nodeC op zeroW kv)), h') ∧ Tch [] h h' := by
 apply Wp.ex
 rw [w_pattern_over]
 unfold pattern_over
 have Mx := Mem.nil [] h
 have hl := nodeC_len (kv := kv) (op := op) zeroW_ok
 have ho := nodeC_one (op := op) (w := zeroW) g.one.1
 have hb := overBld g op
 repeat (first | ((with_reducible apply Wp.lr0 Mx); rfl) | ((with_reducible apply Wp.sa0 Mx); rfl; rfl; ((with_reducible assumption)); clear Mx; intro _ Mx) | ((with_reducible apply Wp.mnew Mx); clear Mx; intro _ Mx) | (with_reducible apply Wp.o; exact hb) | rw [newP_eq])
 exact Wp.ret ⟨rfl, Mx.tch⟩
theorem mem_mid (M : Mem S h0 h (xs ++ (T0 ++ T1))) : Mem S h0 h (xs ++ T1) := Mem.drop (xs := T0) (M.perm (List.perm_append_comm_assoc T0 xs T1))
theorem idx0 (c m : Nat) : idxP 6 (.sl c 0 (m + 1) 6) 0 = some (.ptr c 0) := by
 have := idxP_sl (sz := 6) (b := c) (o := 0) (n := m + 1) (k := 6) (i := 0) (by omega)
 simpa using this
theorem grow_single {c : List AV} (g : GrowT TNode 6 [c] kv T0) : ∃ q, kv = .sl q 0 1 6 ∧ T0 = [(q, TNode, c)] := by
 rcases g.2 with ⟨hh, _⟩ | ⟨_, q, rfl, rfl⟩
 ·cases hh
 ·exact ⟨q, rfl, by simp⟩
theorem inRow_r (Mx : Mem S h0 h (xs ++ (T0 ++ T1))) (g : GrowT TNode 6 kc kv T0) (k : KidsT l kc T1) : ∃ c T h', world n (d + 2) 75 [kv] h = some (.ret (.agg c), h') ∧ NodeT (joinN 3 l) c T ∧ Mem S h0 h' (xs ++ T) := by
 have hkl := k.len
 match l, k, hkl with
 | [], k, hkl =>
  cases k
  rcases g.2 with ⟨_, rfl, rfl⟩ | ⟨hh, _⟩
  ·refine ⟨nodeC 1 zeroW .nsl, [], ?_⟩
   suffices hK : ∃ h', world n (d + 2) 75 [.nsl] h = some (.ret (.agg (nodeC 1 zeroW .nsl)), h') ∧ Mem S h0 h' (xs ++ ([] ++ [])) by
    obtain ⟨h', e, M'⟩ := hK
    exact ⟨h', e, NodeT.leaf 1 zeroW_ok, M'⟩
   apply Wp.ex
   rw [w_pattern_inRow]
   unfold pattern_inRow
   have hlen : lenL .nsl = some 0 := rfl
   repeat (first | ((with_reducible apply Wp.lr0 Mx); rfl) | ((with_reducible apply Wp.sa0 Mx); rfl; rfl; (rfl); clear Mx; intro _ Mx) | ((with_reducible apply Wp.mnew Mx); clear Mx; intro _ Mx) | (with_reducible first | refine Wp.l ?_ | (apply Wp.o; exact hlen)) | ((with_reducible refine Wp.ift ?_ ?_; apply beq_t); omega) | rw [newP_eq])
   exact Wp.ret ⟨rfl, Mx.pop⟩
  ·exact absurd rfl hh
 | [t], k, hkl =>
  obtain ⟨c, rfl, kt⟩ := k.one
  obtain ⟨q, rfl, rfl⟩ := grow_single g
  refine ⟨c, T1, ?_⟩
  suffices hK : ∃ h', world n (d + 2) 75 [.sl q 0 1 6] h = some (.ret (.agg c), h') ∧ Mem S h0 h' (xs ++ ([(q, TNode, c)] ++ T1)) by
   obtain ⟨h', e, M'⟩ := hK
   exact ⟨h', e, kt, mem_mid M'⟩
  apply Wp.ex
  rw [w_pattern_inRow]
  unfold pattern_inRow
  have hlen : lenL (.sl q 0 1 6) = some 1 := rfl
  have ei : idxP 6 (.sl q 0 1 6) 0 = some (.ptr q 0) := idx0 q 0
  repeat (first | ((with_reducible apply Wp.mnew Mx); clear Mx; intro _ Mx) | (with_reducible first | refine Wp.l ?_ | (apply Wp.o; first | exact hlen | exact ei)) | ((with_reducible refine Wp.ift ?_ ?_; apply beq_t); omega) | ((with_reducible refine Wp.iff ?_ ?_; apply beq_f); omega) | rw [newP_eq])
  refine Wp.o (RowH.ldAll (Mem.at (xs := _ :: xs) Mx).1 kt.len) ?_
  refine Wp.sa0 Mx kt.len rfl kt.one fun h6 Mz => ?_
  refine Wp.lr0 Mz kt.len ?_
  exact Wp.ret ⟨rfl, Mz.pop⟩
 | t :: t' :: ts, k, hkl =>
  refine ⟨nodeC 3 zeroW kv, T0 ++ T1, ?_⟩
  suffices hK : ∃ h', world n (d + 2) 75 [kv] h = some (.ret (.agg (nodeC 3 zeroW kv)), h') ∧ Mem S h0 h' (xs ++ (T0 ++ T1)) by
   obtain ⟨h', e, M'⟩ := hK
   exact ⟨h', e, NodeT.mk zeroW_ok g k, M'⟩
  apply Wp.ex
  rw [w_pattern_inRow]
  unfold pattern_inRow
  have hlen := g.len
  simp only [List.length_cons] at hkl
  have hl := nodeC_len (kv := kv) (op := 3) zeroW_ok
  have ho := nodeC_one (op := 3) (w := zeroW) g.one.1
  repeat (first | ((with_reducible refine Wp.mcall (over_r (n := n) (d := d) g 3) Mx (fun _ Mz _ => ?_)); clear Mx; have Mx := Mz; clear Mz) | ((with_reducible apply Wp.lr0 Mx); rfl) | ((with_reducible apply Wp.sa0 Mx); rfl; rfl; ((with_reducible assumption)); clear Mx; intro _ Mx) | ((with_reducible apply Wp.mnew Mx); clear Mx; intro _ Mx) | (with_reducible first | refine Wp.l ?_ | (apply Wp.o; first | exact hlen | exact avAgg_agg _)) | ((with_reducible refine Wp.iff ?_ ?_; apply beq_f); omega) | rw [newP_eq])
  exact Wp.ret ⟨rfl, Mx.pop⟩
end
abbrev TRd : Nat := 70
abbrev TSet : Nat := 38
def byteR : Except Nat (Nat × Nat) → Except (Int × Nat) (AV × Nat)
 | .ok (c, j) => .ok (.int .u8 (c : Int), j)
 | .error q => .error (6, q)
noncomputable def setR : Except Nat (List Nat × Nat) → Except (Int × Nat) (AV × Nat)
 | .ok (w, j) => .ok (.agg (wordsA w), j)
 | .error q => .error (6, q)
section
variable {n d b p q i : Nat} {h h0 : AHeap} {u : Bytes} {Q : ARes → AHeap → Prop} {S : List Nat} {xs : List RowT} {w : List Nat}
theorem at?_256 {c : Nat} (h : at? u i = some c) : c < 256 := by
 obtain ⟨hp, rfl⟩ := at?_some h
 exact UInt8.toNat_lt _
theorem memB2_ok {c j : Nat} (h : memB2 u i = .ok (c, j)) : c < 256 ∧ i < j ∧ j ≤ u.length := by
 unfold memB2 at h
 split at h
 ·cases h
 ·rename_i c' hc
  obtain ⟨hp, _⟩ := at?_some hc
  split at h
  ·split at h
   ·cases h
   ·rename_i e he
    obtain ⟨hp2, _⟩ := at?_some he
    cases h
    exact ⟨at?_256 he, by omega, by omega⟩
  ·split at h
   ·cases h
   ·cases h
    exact ⟨at?_256 hc, by omega, by omega⟩
theorem memB2_bad {q : Nat} (hi : i ≤ u.length) (h : memB2 u i = .error q) : q ≤ u.length := by
 unfold memB2 at h
 split at h
 ·cases h
  exact hi
 ·rename_i c' hc
  obtain ⟨hp, _⟩ := at?_some hc
  split at h
  ·split at h
   ·cases h
    omega
   ·cases h
  ·split at h
   ·cases h
    omega
   ·cases h
theorem memberF_ok {w' : List Nat} {j : Nat} (hw : WordsOk w) (h : memberF u w i = .ok (w', j)) : WordsOk w' ∧ i < j ∧ j ≤ u.length := by
 unfold memberF at h
 split at h
 ·cases h
 ·rename_i c j' h1
  obtain ⟨_, h2, h3⟩ := memB2_ok h1
  split at h
  ·split at h
   ·cases h
   ·rename_i e k h4
    obtain ⟨_, h5, h6⟩ := memB2_ok h4
    split at h
    ·cases h
    ·cases h
     exact ⟨spanW_ok _ hw _, by omega, h6⟩
  ·cases h
   exact ⟨spanW_ok _ hw _, h2, h3⟩
theorem memberF_bad {q : Nat} (hi : i ≤ u.length) (h : memberF u w i = .error q) : q ≤ u.length := by
 unfold memberF at h
 split at h
 ·rename_i h1
  cases h
  exact memB2_bad hi h1
 ·rename_i c j' h1
  split at h
  ·rename_i h45
   obtain ⟨hp, _⟩ := at?_some h45
   split at h
   ·rename_i h4
    cases h
    exact memB2_bad (by omega) h4
   ·rename_i e k h4
    obtain ⟨_, h5, h6⟩ := memB2_ok h4
    split at h
    ·cases h
     omega
    ·cases h
  ·cases h
theorem memberByte_r (k : Rd h b u i) (hb : b < h.next) (hi : i ≤ u.length) (hu : u.length ≤ 1000000) : Step b u h (world n (d + 3) 94 [.ptr b 0] h) (byteR (memB2 u i)) := by
 have hx := next_r (n := n) (d := d) k hb hi hu
 unfold memB2
 cases hc : at? u i with
 | none =>
  rw [hc] at hx
  refine Step.err_of ?_
  rw [w_pattern_reader_memberByte]
  unfold pattern_reader_memberByte
  exact Wp.stepE hx fun h' p' k1 k2 => ⟨rfl, p', k1, k2⟩
 | some c =>
  rw [hc] at hx
  obtain ⟨hp, _⟩ := at?_some hc
  have h256 := at?_256 hc
  by_cases h92 : c = 92
  ·show Step b u h _ (byteR (if c = 92 then _ else _))
   rw [if_pos h92]
   cases he : at? u (i + 1) with
   | none =>
    refine Step.err_of ?_
    rw [w_pattern_reader_memberByte]
    unfold pattern_reader_memberByte
    refine Wp.stepK hx fun h1 k1 t1 => ?_
    have hx2 := next_r (n := n) (d := d) k1 (lt_tch t1 hb) (by omega) hu
    rw [he] at hx2
    repeat (first | (with_reducible first | refine Wp.l ?_ | (apply Wp.o; exact avInt_int _ _)) | ((with_reducible refine Wp.ift ?_ ?_; apply beq_t); omega))
    exact Wp.stepE hx2 fun h' p' k2 t2 => ⟨rfl, p', k2, t1.trans t2⟩
   | some e =>
    refine Step.ok_of ?_
    rw [w_pattern_reader_memberByte]
    unfold pattern_reader_memberByte
    refine Wp.stepK hx fun h1 k1 t1 => ?_
    have hx2 := next_r (n := n) (d := d) k1 (lt_tch t1 hb) (by omega) hu
    rw [he] at hx2
    repeat (first | (with_reducible first | refine Wp.l ?_ | (apply Wp.o; exact avInt_int _ _)) | ((with_reducible refine Wp.ift ?_ ?_; apply beq_t); omega))
    refine Wp.stepK hx2 fun h2 k2 t2 => ?_
    repeat (((with_reducible apply Wp.o); (with_reducible exact avInt_int _ _)))
    exact Wp.ret ⟨rfl, k2, t1.trans t2⟩
  ·show Step b u h _ (byteR (if c = 92 then _ else _))
   rw [if_neg h92]
   by_cases hs : c = 91 ∨ c = 93 ∨ c = 94 ∨ c = 45
   ·rw [if_pos hs]
    refine Step.err_of ?_
    rw [w_pattern_reader_memberByte]
    unfold pattern_reader_memberByte
    refine Wp.stepK hx fun h1 k1 t1 => ?_
    have hr := refuseLast_r (n := n) (d := d) k1 (by omega) hu
    rcases hs with hs | hs | hs | hs
    ·repeat (first | (with_reducible first | (first | refine Wp.join0 (fun _ _ => ?_) | refine Wp.join1 (fun _ _ => ?_)) | refine Wp.l ?_ | (apply Wp.o; exact avInt_int _ _)) | ((with_reducible refine Wp.ift ?_ ?_); first | (with_reducible rfl) | ((with_reducible apply beq_t); omega)) | ((with_reducible refine Wp.iff ?_ ?_; apply beq_f); omega) | (with_reducible refine Wp.go1 (by assumption) ?_))
     exact Wp.callP hr ⟨rfl, _, k1, t1⟩
    ·repeat (first | (with_reducible first | (first | refine Wp.join0 (fun _ _ => ?_) | refine Wp.join1 (fun _ _ => ?_)) | refine Wp.l ?_ | (apply Wp.o; exact avInt_int _ _)) | ((with_reducible refine Wp.ift ?_ ?_); first | (with_reducible rfl) | ((with_reducible apply beq_t); omega)) | ((with_reducible refine Wp.iff ?_ ?_; apply beq_f); omega) | (with_reducible refine Wp.go1 (by assumption) ?_))
     exact Wp.callP hr ⟨rfl, _, k1, t1⟩
    ·repeat (first | (with_reducible first | (first | refine Wp.join0 (fun _ _ => ?_) | refine Wp.join1 (fun _ _ => ?_)) | refine Wp.l ?_ | (apply Wp.o; exact avInt_int _ _)) | ((with_reducible refine Wp.ift ?_ ?_); first | (with_reducible rfl) | ((with_reducible apply beq_t); omega)) | ((with_reducible refine Wp.iff ?_ ?_; apply beq_f); omega) | (with_reducible refine Wp.go1 (by assumption) ?_))
     exact Wp.callP hr ⟨rfl, _, k1, t1⟩
    ·have h45 : ((c : Int) == 45) = true := beq_t (by omega)
     repeat (first | (with_reducible first | (first | refine Wp.join0 (fun _ _ => ?_) | refine Wp.join1 (fun _ _ => ?_)) | refine Wp.l ?_ | (apply Wp.o; exact avInt_int _ _) | (refine Wp.ift ?_ ?_; assumption)) | ((with_reducible refine Wp.iff ?_ ?_; apply beq_f); omega) | (with_reducible refine Wp.go1 (by assumption) ?_))
     exact Wp.callP hr ⟨rfl, _, k1, t1⟩
   ·rw [if_neg hs]
    refine Step.ok_of ?_
    rw [w_pattern_reader_memberByte]
    unfold pattern_reader_memberByte
    refine Wp.stepK hx fun h1 k1 t1 => ?_
    have h45 : ((c : Int) == 45) = false := beq_f (by omega)
    repeat (first | (with_reducible first | (first | refine Wp.join0 (fun _ _ => ?_) | refine Wp.join1 (fun _ _ => ?_)) | refine Wp.l ?_ | (apply Wp.o; exact avInt_int _ _)) | ((with_reducible refine Wp.iff ?_ ?_); first | (with_reducible assumption) | ((with_reducible apply beq_f); omega)) | (with_reducible first | refine Wp.go0 (by assumption) ?_ | refine Wp.go1 (by assumption) ?_))
    exact Wp.ret ⟨rfl, k1, t1⟩
def StepM (S : List Nat) (h0 : AHeap) (xs : List RowT) (b q : Nat) (u : Bytes) (x : R) : Except Nat (List Nat × Nat) → Prop
 | .ok (w', j) => ∃ h', x = some (.ret (.tup []), h') ∧ Mem S h0 h' ((b, TRd, rdP u j) :: (q, TSet, wordsA w') :: xs)
 | .error e => ∃ h' p, x = some (.panic (PanA 6 e), h') ∧ Rd h' b u p ∧ Tch S h0 h'
theorem StepM.ok_of {x : R} {w' : List Nat} {j : Nat} (k : Wp x fun r h' => r = .ret (.tup []) ∧ Mem S h0 h' ((b, TRd, rdP u j) :: (q, TSet, wordsA w') :: xs)) : StepM S h0 xs b q u x (.ok (w', j)) := k.ex
theorem StepM.err_of {x : R} {e : Nat} (k : Wp x fun r h' => r = .panic (PanA 6 e) ∧ ∃ p, Rd h' b u p ∧ Tch S h0 h') : StepM S h0 xs b q u x (.error e) := by
 obtain ⟨_, h', e1, rfl, p, k1, k2⟩ := k
 exact ⟨h', p, e1, k1, k2⟩
theorem addSpan_m (hn : 300 < n) {lo hi : Nat} (h1 : lo ≤ hi) (h2 : hi < 256) (hw : WordsOk w) {y : RowT} (M : Mem S h0 h (y :: (q, TSet, wordsA w) :: xs)) : ∃ h', world n (d + 1) 84 [.ptr q 0, .int .u8 (lo : Int), .int .u8 (hi : Int)] h = some (.ret (.tup []), h') ∧ Mem S h0 h' (y :: (q, TSet, wordsA (spanW w lo (hi + 1 - lo))) :: xs) := by
 have k0 : RowH h q TSet ([] ++ (wordsA w ++ [])) := by
  rw [List.nil_append, List.append_nil]
  exact M.at1.1
 obtain ⟨h', e, k1, t⟩ := addSpan_r (n := n) (d := d) rfl hn h1 h2 hw k0
 rw [List.nil_append, List.append_nil] at k1
 exact ⟨h', e, Mem.upd (xs := [y]) M t k1⟩
theorem member_r (hn : 300 < n) (hw : WordsOk w) (M : Mem S h0 h ((b, TRd, rdP u i) :: (q, TSet, wordsA w) :: xs)) (hi : i ≤ u.length) (hu : u.length ≤ 1000000) : StepM S h0 xs b q u (world n (d + 4) 93 [.ptr b 0, .ptr q 0] h) (memberF u w i) := by
 have hx := memberByte_r (n := n) (d := d) M.at0.1 M.at0.2.1 hi hu
 unfold memberF
 have bS := M.at0.2.2
 have up : ∀ {h1 : AHeap} {p : Nat}, Rd h1 b u p → Tch [b] h h1 → Tch S h0 h1 := fun k t => (Mem.upd (xs := []) M t k).tch
 cases hm : memB2 u i with
 | error e =>
  rw [hm] at hx
  refine StepM.err_of ?_
  rw [w_pattern_reader_member]
  unfold pattern_reader_member
  exact Wp.stepE hx fun h' p' k1 k2 => ⟨rfl, p', k1, up k1 k2⟩
 | ok cj =>
  obtain ⟨c, j⟩ := cj
  rw [hm] at hx
  obtain ⟨c1, c2, c3⟩ := memB2_ok hm
  by_cases h45 : at? u j = some 45
  ·show StepM S h0 xs b q u _ (if at? u j = some 45 then _ else _)
   rw [if_pos h45]
   obtain ⟨hj, _⟩ := at?_some h45
   cases hm2 : memB2 u (j + 1) with
   | error e =>
    refine StepM.err_of ?_
    rw [w_pattern_reader_member]
    unfold pattern_reader_member
    refine Wp.stepK hx fun h1 k1 t1 => ?_
    have hs := skips_r (n := n) (d := d) k1 (lt_tch t1 M.at0.2.1) c3 hu 45
    rw [if_pos h45, decide_eq_true h45] at hs
    repeat (((with_reducible apply Wp.o); (with_reducible exact avInt_int _ _)))
    refine Wp.stepN hs fun h2 k2 t2 => ?_
    have hx2 := memberByte_r (n := n) (d := d) k2 (lt_tch (t1.trans t2) M.at0.2.1) (by omega) hu
    rw [hm2] at hx2
    repeat (with_reducible first | refine Wp.join1 (fun _ _ => ?_) | (apply Wp.o; exact avBool_bool _) | (refine Wp.ift ?_ ?_; rfl))
    exact Wp.stepE hx2 fun h' p' k3 t3 => ⟨rfl, p', k3, up k3 ((t1.trans t2).trans t3)⟩
   | ok ek =>
    obtain ⟨e, k⟩ := ek
    obtain ⟨e1, e2, e3⟩ := memB2_ok hm2
    show StepM S h0 xs b q u _ (if e < c then _ else _)
    by_cases hlt : e < c
    ·rw [if_pos hlt]
     obtain ⟨k', rfl⟩ : ∃ k', k = k' + 1 := ⟨k - 1, by omega⟩
     refine StepM.err_of ?_
     rw [w_pattern_reader_member]
     unfold pattern_reader_member
     refine Wp.stepK hx fun h1 k1 t1 => ?_
     have hs := skips_r (n := n) (d := d) k1 (lt_tch t1 M.at0.2.1) c3 hu 45
     rw [if_pos h45, decide_eq_true h45] at hs
     repeat (((with_reducible apply Wp.o); (with_reducible exact avInt_int _ _)))
     refine Wp.stepN hs fun h2 k2 t2 => ?_
     have hx2 := memberByte_r (n := n) (d := d) k2 (lt_tch (t1.trans t2) M.at0.2.1) (by omega) hu
     rw [hm2] at hx2
     repeat (with_reducible first | refine Wp.join1 (fun _ _ => ?_) | (apply Wp.o; exact avBool_bool _) | (refine Wp.ift ?_ ?_; rfl))
     refine Wp.stepK hx2 fun h3 k3 t3 => ?_
     have hr := refuseLast_r (n := n) (d := d + 1) k3 (by omega) hu
     repeat (first | (with_reducible first | refine Wp.join0 (fun _ _ => ?_) | refine Wp.l ?_ | (apply Wp.o; exact avInt_int _ _)) | ((with_reducible refine Wp.ift ?_ ?_; apply decide_eq_true); omega))
     exact Wp.callP hr ⟨rfl, _, k3, up k3 ((t1.trans t2).trans t3)⟩
    ·rw [if_neg hlt]
     refine StepM.ok_of ?_
     rw [w_pattern_reader_member]
     unfold pattern_reader_member
     refine Wp.stepK hx fun h1 k1 t1 => ?_
     have hs := skips_r (n := n) (d := d) k1 (lt_tch t1 M.at0.2.1) c3 hu 45
     rw [if_pos h45, decide_eq_true h45] at hs
     repeat (((with_reducible apply Wp.o); (with_reducible exact avInt_int _ _)))
     refine Wp.stepN hs fun h2 k2 t2 => ?_
     have hx2 := memberByte_r (n := n) (d := d) k2 (lt_tch (t1.trans t2) M.at0.2.1) (by omega) hu
     rw [hm2] at hx2
     repeat (with_reducible first | refine Wp.join1 (fun _ _ => ?_) | (apply Wp.o; exact avBool_bool _) | (refine Wp.ift ?_ ?_; rfl))
     refine Wp.stepK hx2 fun h3 k3 t3 => ?_
     obtain ⟨h4, e4, M4⟩ := addSpan_m (n := n) (d := d + 2) hn (by omega : c ≤ e) e1 hw (Mem.upd (xs := []) M ((t1.trans t2).trans t3) k3)
     repeat (first | (with_reducible first | refine Wp.join0 (fun _ _ => ?_) | refine Wp.l ?_ | (apply Wp.o; exact avInt_int _ _)) | ((with_reducible refine Wp.iff ?_ ?_; apply decide_eq_false); omega) | (with_reducible first | (apply Wp.callN; assumption) | (first | refine Wp.go0 (by assumption) ?_ | refine Wp.go1 (by assumption) ?_)))
     exact Wp.ret ⟨rfl, M4⟩
  ·show StepM S h0 xs b q u _ (if at? u j = some 45 then _ else _)
   rw [if_neg h45]
   refine StepM.ok_of ?_
   rw [w_pattern_reader_member]
   unfold pattern_reader_member
   refine Wp.stepK hx fun h1 k1 t1 => ?_
   have hs := skips_r (n := n) (d := d) k1 (lt_tch t1 M.at0.2.1) c3 hu 45
   rw [if_neg h45, decide_eq_false h45] at hs
   repeat (((with_reducible apply Wp.o); (with_reducible exact avInt_int _ _)))
   refine Wp.stepN hs fun h2 k2 t2 => ?_
   obtain ⟨h4, e4, M4⟩ := addSpan_m (n := n) (d := d + 2) hn (Nat.le_refl c) c1 hw (Mem.upd (xs := []) M (t1.trans t2) k2)
   rw [show c + 1 - c = 1 by omega] at M4
   repeat (with_reducible first | refine Wp.join1 (fun _ _ => ?_) | (apply Wp.o; exact avBool_bool _) | (refine Wp.iff ?_ ?_; rfl) | (apply Wp.callN; assumption) | refine Wp.go1 (by assumption) ?_)
   exact Wp.ret ⟨rfl, M4⟩
end
section
variable {n d b p q i : Nat} {h h0 : AHeap} {u : Bytes} {Q : ARes → AHeap → Prop} {S : List Nat} {xs : List RowT} {w : List Nat}
theorem members_loop (hu : u.length ≤ 1000000) : ∀ (k j : Nat) (w : List Nat), j ≤ u.length → u.length - j < k → WordsOk w → ∃ r, LoopP u w j r ∧ (∀ w' j', r = .ok (w', j') → WordsOk w' ∧ j < j' ∧ j' ≤ u.length) ∧ (∀ e, r = .error e → e ≤ u.length) ∧
   ∀ {n d f b q : Nat} {S : List Nat} {h0 H hp0 : AHeap} {xs : List RowT} {k16 : AHeap → R} {Q : ARes → AHeap → Prop}, newP hp0 = .ptr q 0 → u.length - j < f → 300 < n → Mem S h0 H ((b, TRd, rdP u j) :: (q, TSet, wordsA w) :: xs) →
    (∀ w' j' H', r = .ok (w', j') → Mem S h0 H' ((b, TRd, rdP u j') :: (q, TSet, wordsA w') :: xs) → Wp (k16 H') Q) →
    (∀ e p H', r = .error e → Rd H' b u p → Tch S h0 H' → Q (.panic (PanA 6 e)) H') →
    Wp (pattern_reader_members_L1 (world n (d + 4)) (.ptr b 0) hp0 k16 f H) Q
 | 0, _, _, _, hk, _ => by omega
 | k + 1, j, w, hj, hk, hw => by
  by_cases h93 : at? u j = some 93
  ·obtain ⟨hp, _⟩ := at?_some h93
   refine ⟨.ok (w, j + 1), .done h93, ?_, ?_, ?_⟩
   ·intro w' j' e
    cases e
    exact ⟨hw, by omega, by omega⟩
   ·intro e he
    cases he
   ·intro n d f b q S h0 H hp0 xs k16 Q eq hf hn M hok hbad
    cases f with
    | zero => omega
    | succ f =>
     rw [pattern_reader_members_L1_s]
     unfold pattern_reader_members_L1b
     have hs := skips_r (n := n) (d := d + 1) M.at0.1 M.at0.2.1 hj hu 93
     rw [if_pos h93, decide_eq_true h93] at hs
     refine Wp.stepN hs fun h1 k1 t1 => ?_
     repeat (with_reducible first | refine Wp.l ?_ | (apply Wp.o; exact avBool_bool _) | (refine Wp.iff ?_ ?_; exact Bool.not_true))
     exact hok w (j + 1) h1 rfl (Mem.upd (xs := []) M t1 k1)
  ·cases hm : memberF u w j with
   | error e =>
    refine ⟨.error e, .bad h93 hm, ?_, ?_, ?_⟩
    ·intro w' j' e
     cases e
    ·intro e' he
     cases he
     exact memberF_bad hj hm
    ·intro n d f b q S h0 H hp0 xs k16 Q eq hf hn M hok hbad
     cases f with
     | zero => omega
     | succ f =>
      rw [pattern_reader_members_L1_s]
      unfold pattern_reader_members_L1b
      have hs := skips_r (n := n) (d := d + 1) M.at0.1 M.at0.2.1 hj hu 93
      rw [if_neg h93, decide_eq_false h93] at hs
      refine Wp.stepN hs fun h1 k1 t1 => ?_
      have hx := member_r (n := n) (d := d) hn hw (Mem.upd (xs := []) M t1 k1) hj hu
      rw [hm] at hx
      obtain ⟨h2, p2, e2, k2, t2⟩ := hx
      rw [eq]
      repeat (with_reducible first | refine Wp.l ?_ | (apply Wp.o; exact avBool_bool _) | (refine Wp.ift ?_ ?_; exact Bool.not_false))
      exact Wp.callP e2 (hbad e p2 h2 rfl k2 t2)
   | ok wj =>
    obtain ⟨w', j'⟩ := wj
    obtain ⟨m1, m2, m3⟩ := memberF_ok hw hm
    obtain ⟨r, r1, r2, r3, r4⟩ := members_loop hu k j' w' m3 (by omega) m1
    refine ⟨r, .more h93 hm r1, ?_, r3, ?_⟩
    ·intro w2 j2 e
     obtain ⟨a1, a2, a3⟩ := r2 w2 j2 e
     exact ⟨a1, by omega, a3⟩
    ·intro n d f b q S h0 H hp0 xs k16 Q eq hf hn M hok hbad
     cases f with
     | zero => omega
     | succ f =>
      rw [pattern_reader_members_L1_s]
      unfold pattern_reader_members_L1b
      have hs := skips_r (n := n) (d := d + 1) M.at0.1 M.at0.2.1 hj hu 93
      rw [if_neg h93, decide_eq_false h93] at hs
      refine Wp.stepN hs fun h1 k1 t1 => ?_
      have hx := member_r (n := n) (d := d) hn hw (Mem.upd (xs := []) M t1 k1) hj hu
      rw [hm] at hx
      obtain ⟨h2, e2, M2⟩ := hx
      rw [eq]
      repeat (with_reducible first | refine Wp.l ?_ | (apply Wp.o; exact avBool_bool _) | (refine Wp.ift ?_ ?_; exact Bool.not_false) | (apply Wp.callK; assumption))
      exact r4 eq (by omega) hn M2 hok hbad
theorem others_loop {hp0 : AHeap} {k29 : AHeap → R} {y : RowT} (eq : newP hp0 = .ptr q 0) : ∀ (v2 v1 : List Nat) (f : Nat) (H : AHeap), v2.length < f → v1.length + v2.length = 4 → (∀ x ∈ v2, x < 18446744073709551616) → Mem S h0 H (y :: (q, TSet, wordsA v1 ++ wordsA v2) :: xs) →
   (∀ H', Mem S h0 H' (y :: (q, TSet, wordsA v1 ++ wordsA (othersW v2)) :: xs) → Wp (k29 H') Q) → Wp (pattern_reader_members_L0 hp0 k29 f ((v1.length : Nat) : Int) H) Q
 | _, _, 0, _, hf, _, _, _, _ => by omega
 | [], v1, f + 1, H, hf, hl, hs, M, hk => by
  rw [pattern_reader_members_L0_s]
  unfold pattern_reader_members_L0b
  rw [List.length_nil] at hl
  repeat (first | (with_reducible refine Wp.l ?_) | ((with_reducible refine Wp.iff ?_ ?_; apply decide_eq_false); omega))
  exact hk H M
 | x :: v2, v1, f + 1, H, hf, hl, hs, M, hk => by
  rw [pattern_reader_members_L0_s]
  unfold pattern_reader_members_L0b
  rw [List.length_cons] at hl hf
  have hx := hs x List.mem_cons_self
  rw [eq]
  have e1 := idxA_ptr (n := 4) (b := q) (o := 0) (i := v1.length) (by omega)
  rw [Nat.zero_add] at e1
  have hlv := wordsA_len v1
  have ho : (wordsA v1 ++ wordsA (x :: v2))[v1.length]? = some (.int .u64 (x : Int)) := by
   rw [List.getElem?_append_right (by omega), hlv, Nat.sub_self]
   rfl
  repeat (first | (with_reducible first | refine Wp.l ?_ | (apply Wp.o; exact e1)) | ((with_reducible refine Wp.ift ?_ ?_; apply decide_eq_true); omega))
  refine Wp.ld1 M ho ?_
  repeat (with_reducible first | refine Wp.l ?_ | (apply Wp.o; first | exact e1 | exact avInt_int _ _))
  rw [show (18446744073709551615 : Int) = ((18446744073709551615 : Nat) : Int) from rfl, xorI_nat hx (by omega)]
  refine Wp.ms1 M (by simp [wordsA_len]) rfl fun H' M' => ?_
  have es : (wordsA v1 ++ wordsA (x :: v2)).set v1.length (.int .u64 ((x ^^^ 18446744073709551615 : Nat) : Int)) = wordsA (v1 ++ [x ^^^ 18446744073709551615]) ++ wordsA v2 := by
   rw [List.set_append_right _ _ (by omega), hlv, Nat.sub_self]
   simp [wordsA]
  rw [es] at M'
  repeat (((with_reducible refine Wp.lettw ?_ ?_ ?_); omega; omega))
  have el : (v1.length : Int) + 1 = (((v1 ++ [x ^^^ 18446744073709551615]).length : Nat) : Int) := by simp
  rw [el]
  refine others_loop eq v2 (v1 ++ [x ^^^ 18446744073709551615]) f H' (by omega) (by simp; omega) (fun z hz => hs z (List.mem_cons_of_mem _ hz)) M' fun H2 M2 => hk H2 ?_
  have e2 : wordsA (v1 ++ [x ^^^ 18446744073709551615]) ++ wordsA (othersW v2) = wordsA v1 ++ wordsA (othersW (x :: v2)) := by simp [wordsA, othersW]
  rw [e2] at M2
  exact M2
theorem members_r (hu : u.length ≤ 1000000) (hi : i ≤ u.length) : ∃ r, SetP u i r ∧ (∀ w j, r = .ok (w, j) → WordsOk w ∧ i < j ∧ j ≤ u.length) ∧ (∀ e, r = .error e → e ≤ u.length) ∧
  ∀ {n d b : Nat} {h : AHeap}, 300 < n → u.length < n → Rd h b u i → b < h.next → Step b u h (world n (d + 5) 91 [.ptr b 0] h) (setR r) := by
 have hb1 : setB u i ≤ u.length ∧ i ≤ setB u i := by
  unfold setB
  by_cases h94 : at? u i = some 94
  ·obtain ⟨hp, _⟩ := at?_some h94
   rw [if_pos h94]
   omega
  ·rw [if_neg h94]
   omega
 cases hm : memberF u zeroW (setB u i) with
 | error e =>
  refine ⟨.error e, .bad hm, ?_, ?_, ?_⟩
  ·intro w j hh
   cases hh
  ·intro e' hh
   cases hh
   exact memberF_bad hb1.1 hm
  ·intro n d b h hn hn2 k hb
   refine Step.err_of ?_
   have hs := fun (h' : AHeap) (k' : Rd h' b u i) (hb' : b < h'.next) => skips_r (n := n) (d := d + 1) k' hb' hi hu 94
   rw [w_pattern_reader_members]
   unfold pattern_reader_members
   have Mx := Mem.one k hb
   repeat (first | ((with_reducible apply Wp.mnew Mx); clear Mx; intro _ Mx) | rw [newP_eq])
   have hs1 := hs _ Mx.at1.1 Mx.at1.2.1
   refine Wp.stepN hs1 fun h1 k1 t1 => ?_
   have Mz := Mem.upd (xs := [_]) Mx t1 k1
   clear Mx
   have Mx := Mz
   clear Mz
   repeat (first | (with_reducible apply Wp.o; exact avBool_bool _) | ((with_reducible apply Wp.mnew Mx); clear Mx; intro _ Mx) | rw [newP_eq])
   have M2 : Mem _ _ _ ((b, TRd, rdP u (setB u i)) :: (h1.next, TSet, wordsA zeroW) :: [_]) := Mx.perm (List.perm_append_comm (l₁ := [_]) (l₂ := [_, _]))
   have hx := member_r (n := n) (d := d) hn zeroW_ok M2 hb1.1 hu
   rw [hm] at hx
   obtain ⟨h2, p2, e2, k2, t2⟩ := hx
   exact Wp.callP e2 ⟨rfl, p2, k2, t2⟩
 | ok wj =>
  obtain ⟨w, j⟩ := wj
  obtain ⟨m1, m2, m3⟩ := memberF_ok zeroW_ok hm
  obtain ⟨r, r1, r2, r3, r4⟩ := members_loop hu (u.length + 1) j w m3 (by omega) m1
  refine ⟨othersR u i r, .set hm r1, ?_, ?_, ?_⟩
  ·intro w' j' hh
   cases r with
   | error e => cases hh
   | ok wj2 =>
    obtain ⟨w2, j2⟩ := wj2
    obtain ⟨a1, a2, a3⟩ := r2 w2 j2 rfl
    cases hh
    refine ⟨?_, by omega, a3⟩
    split
    ·exact othersW_ok a1
    ·exact a1
  ·intro e hh
   cases r with
   | error e' =>
    cases hh
    exact r3 _ rfl
   | ok wj2 => cases hh
  ·intro n d b h hn hn2 k hb
   have main : ∀ Q : ARes → AHeap → Prop, (∀ w' j' H', r = .ok (w', j') → Rd H' b u j' → Tch [b] h H' → Q (.ret (.agg (wordsA (if at? u i = some 94 then othersW w' else w')))) H') → (∀ e p H', r = .error e → Rd H' b u p → Tch [b] h H' → Q (.panic (PanA 6 e)) H') → Wp (world n (d + 5) 91 [.ptr b 0] h) Q := by
    intro Q q1 q2
    have hs := fun (h' : AHeap) (k' : Rd h' b u i) (hb' : b < h'.next) => skips_r (n := n) (d := d + 1) k' hb' hi hu 94
    rw [w_pattern_reader_members]
    unfold pattern_reader_members
    have Mx := Mem.one k hb
    repeat (first | ((with_reducible apply Wp.mnew Mx); clear Mx; intro _ Mx) | rw [newP_eq])
    have hs1 := hs _ Mx.at1.1 Mx.at1.2.1
    refine Wp.stepN hs1 fun h1 k1 t1 => ?_
    have Mz := Mem.upd (xs := [_]) Mx t1 k1
    clear Mx
    have Mx := Mz
    clear Mz
    repeat (first | (with_reducible apply Wp.o; exact avBool_bool _) | ((with_reducible apply Wp.mnew Mx); clear Mx; intro _ Mx) | rw [newP_eq])
    have M2 : Mem _ _ _ ((b, TRd, rdP u (setB u i)) :: (h1.next, TSet, wordsA zeroW) :: [_]) := Mx.perm (List.perm_append_comm (l₁ := [_]) (l₂ := [_, _]))
    have hx := member_r (n := n) (d := d) hn zeroW_ok M2 hb1.1 hu
    rw [hm] at hx
    obtain ⟨h2, e2, M3⟩ := hx
    refine Wp.callK e2 ?_
    ((with_reducible refine Wp.join0 (fun _ _ => ?_)))
    rename_i k16 ek16
    refine r4 (newP_eq h1) (by omega) hn M3 ?_ ?_
    ·intro w' j' H' hr M4
     obtain ⟨a1, a2, a3⟩ := r2 w' j' hr
     ((with_reducible refine Wp.go0 (by assumption) ?_))
     ((with_reducible refine Wp.join0 (fun _ _ => ?_)))
     rename_i k20 ek20
     have fin : ∀ {w2 : List Nat} {H2 : AHeap}, WordsOk w2 → w2 = (if at? u i = some 94 then othersW w' else w') → Mem [b] h H2 ((b, TRd, rdP u j') :: (h1.next, TSet, wordsA w2) :: [(h.next, TSet, [.int .u64 0, .int .u64 0, .int .u64 0, .int .u64 0])]) → Wp (k20 H2) Q := by
      intro w2 H2 o2 ew M5
      have hl : (wordsA w2).length = 4 := by rw [wordsA_len, o2.len]
      refine Wp.go0 ek20 ?_
      refine Wp.lr1 M5 hl ?_
      refine Wp.sa2 M5 hl rfl (wordsA_one _) fun H3 M6 => ?_
      refine Wp.lr2 M6 hl ?_
      rw [ew] at M6 ⊢
      exact Wp.ret (q1 w' j' H3 hr M6.at0.1 M6.tch)
     by_cases h94 : at? u i = some 94
     ·(((with_reducible refine Wp.ift ?_ ?_; apply decide_eq_true); omega))
      ((with_reducible refine Wp.join0 (fun _ _ => ?_)))
      rename_i k29 ek29
      have ho := others_loop (S := [b]) (h0 := h) (k29 := k29) (Q := Q) (newP_eq h1) w' [] n H' (by rw [a1.len]; omega) (by rw [a1.len]; rfl) a1.small (by exact M4)
      refine ho fun H2 M5 => ?_
      refine Wp.go0 ek29 ?_
      exact fin (othersW_ok a1) (by rw [if_pos h94]) M5
     ·(((with_reducible refine Wp.iff ?_ ?_; apply decide_eq_false); omega))
      exact fin a1 (by rw [if_neg h94]) M4
    ·intro e p H' hr k5 t5
     exact q2 e p H' hr k5 t5
   cases r with
   | error e => exact Step.err_of (main _ (fun w' j' H' hh => by cases hh) fun e' p H' hh k5 t5 => by cases hh; exact ⟨rfl, p, k5, t5⟩)
   | ok wj2 =>
    obtain ⟨w2, j2⟩ := wj2
    exact Step.ok_of (main _ (fun w' j' H' hh k5 t5 => by cases hh; exact ⟨rfl, k5, t5⟩) fun e' p H' hh => by cases hh)
end
def Bnd (u : Bytes) (i : Nat) : Res → Prop
 | .ok (_, j) => i ≤ j ∧ j ≤ u.length
 | .error q => q ≤ u.length
def Bnd1 (u : Bytes) (i : Nat) : Res → Prop
 | .ok (_, j) => i < j ∧ j ≤ u.length
 | .error q => q ≤ u.length
def AltOk (u : Bytes) (m : Nat) : Prop := ∀ i, i ≤ u.length → u.length - i ≤ m → ∃ r, AltP u [] i r ∧ Bnd u i r ∧
 ∀ {n D b : Nat} {h : AHeap}, 4 * m + 9 ≤ D → 300 < n → u.length + 5 < n → Rd h b u i → b < h.next → memB TNode h.ex = false → StepN b u h (world n D 61 [.ptr b 0] h) r
def RowOk (u : Bytes) (m : Nat) : Prop := ∀ i, i ≤ u.length → u.length - i ≤ m → ∃ r, RowP u [] i r ∧ Bnd u i r ∧
 ∀ {n D b : Nat} {h : AHeap}, 4 * m + 8 ≤ D → 300 < n → u.length + 5 < n → Rd h b u i → b < h.next → memB TNode h.ex = false → StepN b u h (world n D 79 [.ptr b 0] h) r
def PartOk (u : Bytes) (m : Nat) : Prop := ∀ i, i ≤ u.length → u.length - i ≤ m → ∃ r, PartP u i r ∧ Bnd1 u i r ∧
 ∀ {n D b : Nat} {h : AHeap}, 4 * m + 7 ≤ D → 300 < n → u.length + 5 < n → Rd h b u i → b < h.next → memB TNode h.ex = false → StepN b u h (world n D 85 [.ptr b 0] h) r
def AtomOk (u : Bytes) (m : Nat) : Prop := ∀ i, i ≤ u.length → u.length - i ≤ m → ∃ r, AtomP u i r ∧ Bnd1 u i r ∧
 ∀ {n D b : Nat} {h : AHeap}, 4 * m + 6 ≤ D → 300 < n → u.length + 5 < n → Rd h b u i → b < h.next → memB TNode h.ex = false → StepN b u h (world n D 88 [.ptr b 0] h) r
section
variable {n d b p q i : Nat} {h h0 : AHeap} {u : Bytes} {Q : ARes → AHeap → Prop} {S : List Nat} {xs rs T : List RowT} {w : List Nat} {x : R} {k : AV → AHeap → R} {t : Nd} {c : List AV} {v : AV}
theorem StepN.ok_of (kk : Wp x fun r h' => ∃ c T, r = .ret (.agg c) ∧ NodeT t c T ∧ Mem [b] h h' ((b, TRd, rdP u p) :: T)) : StepN b u h x (.ok (t, p)) := by
 obtain ⟨_, h', e, c, T, rfl, k1, k2⟩ := kk
 exact ⟨c, T, h', e, k1, k2⟩
theorem StepN.err_of (kk : Wp x fun r h' => r = .panic (PanA 6 q) ∧ ∃ p, Rd h' b u p ∧ Tch [b] h h') : StepN b u h x (.error q) := by
 obtain ⟨_, h', e, rfl, p, k1, k2⟩ := kk
 exact ⟨h', p, e, k1, k2⟩
theorem Wp.nodeK (hx : StepN b u h x (.ok (t, p))) (M : Mem S h0 h ((b, TRd, rdP u i) :: rs)) (hk : ∀ c T h', NodeT t c T → Mem S h0 h' ((b, TRd, rdP u p) :: (rs ++ T)) → Wp (k (.agg c) h') Q) : Wp (callK x k) Q := by
 obtain ⟨c, T, h', e, kt, M'⟩ := hx
 exact Wp.callK e (hk c T h' kt (Mem.frameT (xs := [_]) (ys := [_]) M M'))
theorem Wp.nodeE (hx : StepN b u h x (.error q)) (M : Mem S h0 h ((b, TRd, rdP u i) :: rs)) (hq : ∀ h' p, Rd h' b u p → Tch S h0 h' → Q (.panic (PanA 6 q)) h') : Wp (callK x k) Q := by
 obtain ⟨h', p, e, k1, k2⟩ := hx
 exact Wp.callP e (hq h' p k1 (Mem.upd (xs := []) M k2 k1).tch)
theorem Wp.rdK (hx : Step b u h x (.ok (v, p))) (M : Mem S h0 h ((b, TRd, rdP u i) :: rs)) (hk : ∀ h', Mem S h0 h' ((b, TRd, rdP u p) :: rs) → Wp (k v h') Q) : Wp (callK x k) Q :=
 Wp.stepK hx fun h' k1 t1 => hk h' (Mem.upd (xs := []) M t1 k1)
theorem Wp.rdN (hx : Step b u h x (.ok (v, p))) (M : Mem S h0 h ((b, TRd, rdP u i) :: rs)) (hk : ∀ h', Mem S h0 h' ((b, TRd, rdP u p) :: rs) → Wp (k v h') Q) : Wp (callN x k) Q :=
 Wp.stepN hx fun h' k1 t1 => hk h' (Mem.upd (xs := []) M t1 k1)
theorem Wp.rdE (hx : Step b u h x (.error (6, q))) (M : Mem S h0 h ((b, TRd, rdP u i) :: rs)) (hq : ∀ h' p, Rd h' b u p → Tch S h0 h' → Q (.panic (PanA 6 q)) h') : Wp (callK x k) Q :=
 Wp.stepE hx fun h' p k1 t1 => hq h' p k1 (Mem.upd (xs := []) M t1 k1).tch
theorem fin_node {r0 : Nat} {l : List AV} (M : Mem S h0 h ((b, TRd, rdP u p) :: (r0, TNode, l) :: T)) (hl : l.length = 6) (kt : NodeT t c T) : Wp (obind (stRow h 6 c (.ptr r0 0)) fun h1 => obind (ldRow h1 6 (.ptr r0 0)) fun w => some (.ret (.agg w), h1)) fun r h' => ∃ c T, r = .ret (.agg c) ∧ NodeT t c T ∧ Mem S h0 h' ((b, TRd, rdP u p) :: T) := by
 refine Wp.sa1 M kt.len hl kt.one fun h1 M1 => ?_
 refine Wp.lr1 M1 kt.len ?_
 exact Wp.ret ⟨c, T, rfl, kt, mem_mid (xs := [_]) (T0 := [_]) M1⟩
theorem atom_ok (hu : u.length ≤ 1000000) {m : Nat} (ih : ∀ m', m = m' + 1 → AltOk u m') : AtomOk u m := by
 intro i hi hm
 cases hc : at? u i with
 | none =>
  refine ⟨_, .none hc, hi, ?_⟩
  intro n D b h hD hn hn2 k0 hb hx
  obtain ⟨D, rfl⟩ : ∃ D', D = D' + 6 := ⟨D - 6, by omega⟩
  refine StepN.err_of ?_
  rw [w_pattern_reader_atom]
  unfold pattern_reader_atom
  have Mx := Mem.one k0 hb
  repeat (first | ((with_reducible apply Wp.mnew Mx); clear Mx; intro _ Mx) | rw [newP_eq])
  have M1 := Mx.swap
  have hs := next_r (n := n) (d := D + 3) M1.at0.1 M1.at0.2.1 hi hu
  rw [hc] at hs
  exact Wp.rdE hs M1 fun h' p k1 t1 => ⟨rfl, p, k1, t1⟩
 | some c =>
  obtain ⟨hp, _⟩ := at?_some hc
  have h256 := at?_256 hc
  by_cases h40 : c = 40
  ·subst h40
   obtain ⟨m', rfl⟩ : ∃ m', m = m' + 1 := ⟨m - 1, by omega⟩
   obtain ⟨r, r1, r2, r3⟩ := ih m' rfl (i + 1) (by omega) (by omega)
   cases r with
   | error q =>
    refine ⟨_, .open_bad hc r1, r2, ?_⟩
    intro n D b h hD hn hn2 k0 hb hx
    obtain ⟨D, rfl⟩ : ∃ D', D = D' + 6 := ⟨D - 6, by omega⟩
    refine StepN.err_of ?_
    rw [w_pattern_reader_atom]
    unfold pattern_reader_atom
    have Mx := Mem.one k0 hb
    repeat (first | ((with_reducible apply Wp.mnew Mx); clear Mx; intro _ Mx) | rw [newP_eq])
    have M1 := Mx.swap
    have hs := next_r (n := n) (d := D + 3) M1.at0.1 M1.at0.2.1 hi hu
    rw [hc] at hs
    refine Wp.rdK hs M1 fun h1 M2 => ?_
    have hs2 := r3 (n := n) (D := D + 5) (by omega) hn hn2 M2.at0.1 M2.at0.2.1 (by rw [M2.ex]; exact hx)
    repeat (first | (with_reducible first | refine Wp.l ?_ | (apply Wp.o; exact avInt_int _ _)) | ((with_reducible refine Wp.ift ?_ ?_; apply beq_t); omega))
    exact Wp.nodeE hs2 M2 fun h' p k1 t1 => ⟨rfl, p, k1, t1⟩
   | ok tj =>
    obtain ⟨t, j⟩ := tj
    obtain ⟨b1, b2⟩ := r2
    by_cases h41 : at? u j = some 41
    ·obtain ⟨hj, _⟩ := at?_some h41
     refine ⟨_, .group hc r1 h41, ⟨by omega, by omega⟩, ?_⟩
     intro n D b h hD hn hn2 k0 hb hx
     obtain ⟨D, rfl⟩ : ∃ D', D = D' + 6 := ⟨D - 6, by omega⟩
     refine StepN.ok_of ?_
     rw [w_pattern_reader_atom]
     unfold pattern_reader_atom
     have Mx := Mem.one k0 hb
     repeat (first | ((with_reducible apply Wp.mnew Mx); clear Mx; intro _ Mx) | rw [newP_eq])
     have M1 := Mx.swap
     have hs := next_r (n := n) (d := D + 3) M1.at0.1 M1.at0.2.1 hi hu
     rw [hc] at hs
     refine Wp.rdK hs M1 fun h1 M2 => ?_
     have hs2 := r3 (n := n) (D := D + 5) (by omega) hn hn2 M2.at0.1 M2.at0.2.1 (by rw [M2.ex]; exact hx)
     repeat (first | (with_reducible first | refine Wp.l ?_ | (apply Wp.o; exact avInt_int _ _)) | ((with_reducible refine Wp.ift ?_ ?_; apply beq_t); omega))
     refine Wp.nodeK hs2 M2 fun c T h2 kt M3 => ?_
     (((with_reducible apply Wp.o); (with_reducible exact avAgg_agg _)))
     refine Wp.mnew M3 fun h3 M4 => ?_
     rw [newP_eq]
     refine Wp.sa0 M4 kt.len rfl kt.one fun h4 M5 => ?_
     have M6 := M5.swap
     have hs3 := take_r (n := n) (d := D + 1) M6.at0.1 M6.at0.2.1 b2 hu 41
     rw [if_pos h41] at hs3
     refine Wp.rdK hs3 M6 fun h5 M7 => ?_
     refine Wp.lr1 M7 kt.len ?_
     exact fin_node (mem_mid (xs := [_]) (T0 := [_]) M7) rfl kt
    ·refine ⟨_, .open_end hc r1 h41, b2, ?_⟩
     intro n D b h hD hn hn2 k0 hb hx
     obtain ⟨D, rfl⟩ : ∃ D', D = D' + 6 := ⟨D - 6, by omega⟩
     refine StepN.err_of ?_
     rw [w_pattern_reader_atom]
     unfold pattern_reader_atom
     have Mx := Mem.one k0 hb
     repeat (first | ((with_reducible apply Wp.mnew Mx); clear Mx; intro _ Mx) | rw [newP_eq])
     have M1 := Mx.swap
     have hs := next_r (n := n) (d := D + 3) M1.at0.1 M1.at0.2.1 hi hu
     rw [hc] at hs
     refine Wp.rdK hs M1 fun h1 M2 => ?_
     have hs2 := r3 (n := n) (D := D + 5) (by omega) hn hn2 M2.at0.1 M2.at0.2.1 (by rw [M2.ex]; exact hx)
     repeat (first | (with_reducible first | refine Wp.l ?_ | (apply Wp.o; exact avInt_int _ _)) | ((with_reducible refine Wp.ift ?_ ?_; apply beq_t); omega))
     refine Wp.nodeK hs2 M2 fun c T h2 kt M3 => ?_
     (((with_reducible apply Wp.o); (with_reducible exact avAgg_agg _)))
     refine Wp.mnew M3 fun h3 M4 => ?_
     rw [newP_eq]
     refine Wp.sa0 M4 kt.len rfl kt.one fun h4 M5 => ?_
     have M6 := M5.swap
     have hs3 := take_r (n := n) (d := D + 1) M6.at0.1 M6.at0.2.1 b2 hu 41
     rw [if_neg h41] at hs3
     exact Wp.rdE hs3 M6 fun h' p k1 t1 => ⟨rfl, p, k1, t1⟩
  by_cases h46 : c = 46
  ·subst h46
   refine ⟨_, .any hc, ⟨by omega, by omega⟩, ?_⟩
   intro n D b h hD hn hn2 k0 hb hx
   obtain ⟨D, rfl⟩ : ∃ D', D = D' + 6 := ⟨D - 6, by omega⟩
   refine StepN.ok_of ?_
   rw [w_pattern_reader_atom]
   unfold pattern_reader_atom
   have Mx := Mem.one k0 hb
   repeat (first | ((with_reducible apply Wp.mnew Mx); clear Mx; intro _ Mx) | rw [newP_eq])
   have M1 := Mx.swap
   have hs := next_r (n := n) (d := D + 3) M1.at0.1 M1.at0.2.1 hi hu
   rw [hc] at hs
   refine Wp.rdK hs M1 fun h1 M2 => ?_
   repeat (first | (with_reducible first | refine Wp.l ?_ | (apply Wp.o; first | exact avInt_int _ _ | exact avAgg_agg _)) | ((with_reducible refine Wp.ift ?_ ?_; apply beq_t); omega) | ((with_reducible refine Wp.iff ?_ ?_; apply beq_f); omega) | (with_reducible apply Wp.callN; exact anyByte_w (d := D + 3) hn))
   exact fin_node M2 rfl (NodeT.leaf 2 anyW_ok)
  by_cases h91 : c = 91
  ·subst h91
   obtain ⟨r, r1, r2, r2', r3⟩ := members_r hu (i := i + 1) (by omega)
   cases r with
   | error q =>
    refine ⟨_, .set_bad hc r1, r2' q rfl, ?_⟩
    intro n D b h hD hn hn2 k0 hb hx
    obtain ⟨D, rfl⟩ : ∃ D', D = D' + 6 := ⟨D - 6, by omega⟩
    refine StepN.err_of ?_
    rw [w_pattern_reader_atom]
    unfold pattern_reader_atom
    have Mx := Mem.one k0 hb
    repeat (first | ((with_reducible apply Wp.mnew Mx); clear Mx; intro _ Mx) | rw [newP_eq])
    have M1 := Mx.swap
    have hs := next_r (n := n) (d := D + 3) M1.at0.1 M1.at0.2.1 hi hu
    rw [hc] at hs
    refine Wp.rdK hs M1 fun h1 M2 => ?_
    have hs2 := r3 (n := n) (d := D) hn (by omega) M2.at0.1 M2.at0.2.1
    repeat (first | (with_reducible first | refine Wp.l ?_ | (apply Wp.o; exact avInt_int _ _)) | ((with_reducible refine Wp.ift ?_ ?_; apply beq_t); omega) | ((with_reducible refine Wp.iff ?_ ?_; apply beq_f); omega))
    exact Wp.rdE hs2 M2 fun h' p k1 t1 => ⟨rfl, p, k1, t1⟩
   | ok wj =>
    obtain ⟨w, j⟩ := wj
    obtain ⟨o1, o2, o3⟩ := r2 w j rfl
    refine ⟨_, .set hc r1, ⟨by omega, o3⟩, ?_⟩
    intro n D b h hD hn hn2 k0 hb hx
    obtain ⟨D, rfl⟩ : ∃ D', D = D' + 6 := ⟨D - 6, by omega⟩
    refine StepN.ok_of ?_
    rw [w_pattern_reader_atom]
    unfold pattern_reader_atom
    have Mx := Mem.one k0 hb
    repeat (first | ((with_reducible apply Wp.mnew Mx); clear Mx; intro _ Mx) | rw [newP_eq])
    have M1 := Mx.swap
    have hs := next_r (n := n) (d := D + 3) M1.at0.1 M1.at0.2.1 hi hu
    rw [hc] at hs
    refine Wp.rdK hs M1 fun h1 M2 => ?_
    have hs2 := r3 (n := n) (d := D) hn (by omega) M2.at0.1 M2.at0.2.1
    repeat (first | (with_reducible first | refine Wp.l ?_ | (apply Wp.o; exact avInt_int _ _)) | ((with_reducible refine Wp.ift ?_ ?_; apply beq_t); omega) | ((with_reducible refine Wp.iff ?_ ?_; apply beq_f); omega))
    refine Wp.rdK hs2 M2 fun h2 M3 => ?_
    have hb2 := setBld o1
    repeat (((with_reducible apply Wp.o); (with_reducible first | exact hb2 | exact avAgg_agg _)))
    exact fin_node M3 rfl (NodeT.leaf 2 o1)
  by_cases h92 : c = 92
  ·subst h92
   cases he : at? u (i + 1) with
   | none =>
    refine ⟨_, .sl_end hc he, (by show i + 1 ≤ u.length; omega), ?_⟩
    intro n D b h hD hn hn2 k0 hb hx
    obtain ⟨D, rfl⟩ : ∃ D', D = D' + 6 := ⟨D - 6, by omega⟩
    refine StepN.err_of ?_
    rw [w_pattern_reader_atom]
    unfold pattern_reader_atom
    have Mx := Mem.one k0 hb
    repeat (first | ((with_reducible apply Wp.mnew Mx); clear Mx; intro _ Mx) | rw [newP_eq])
    have M1 := Mx.swap
    have hs := next_r (n := n) (d := D + 3) M1.at0.1 M1.at0.2.1 hi hu
    rw [hc] at hs
    refine Wp.rdK hs M1 fun h1 M2 => ?_
    have hs2 := next_r (n := n) (d := D + 3) M2.at0.1 M2.at0.2.1 (by omega) hu
    rw [he] at hs2
    repeat (first | (with_reducible first | refine Wp.l ?_ | (apply Wp.o; exact avInt_int _ _)) | ((with_reducible refine Wp.ift ?_ ?_; apply beq_t); omega) | ((with_reducible refine Wp.iff ?_ ?_; apply beq_f); omega))
    exact Wp.rdE hs2 M2 fun h' p k1 t1 => ⟨rfl, p, k1, t1⟩
   | some e =>
    obtain ⟨hp2, _⟩ := at?_some he
    refine ⟨_, .sl hc he, ⟨by omega, by omega⟩, ?_⟩
    intro n D b h hD hn hn2 k0 hb hx
    obtain ⟨D, rfl⟩ : ∃ D', D = D' + 6 := ⟨D - 6, by omega⟩
    refine StepN.ok_of ?_
    rw [w_pattern_reader_atom]
    unfold pattern_reader_atom
    have Mx := Mem.one k0 hb
    repeat (first | ((with_reducible apply Wp.mnew Mx); clear Mx; intro _ Mx) | rw [newP_eq])
    have M1 := Mx.swap
    have hs := next_r (n := n) (d := D + 3) M1.at0.1 M1.at0.2.1 hi hu
    rw [hc] at hs
    refine Wp.rdK hs M1 fun h1 M2 => ?_
    have hs2 := next_r (n := n) (d := D + 3) M2.at0.1 M2.at0.2.1 (by omega) hu
    rw [he] at hs2
    repeat (first | (with_reducible first | refine Wp.l ?_ | (apply Wp.o; exact avInt_int _ _)) | ((with_reducible refine Wp.ift ?_ ?_; apply beq_t); omega) | ((with_reducible refine Wp.iff ?_ ?_; apply beq_f); omega))
    refine Wp.rdK hs2 M2 fun h2 M3 => ?_
    repeat (with_reducible first | (apply Wp.o; first | exact avInt_int _ _ | exact avAgg_agg _) | (apply Wp.callN; exact oneByte_w (d := D + 3) hn (at?_256 he)))
    exact fin_node M3 rfl (NodeT.leaf 2 (spanW_ok 1 zeroW_ok e))
  by_cases hbad : badAtom c
  ·refine ⟨_, .bad hc hbad, hi, ?_⟩
   intro n D b h hD hn hn2 k0 hb hx
   obtain ⟨D, rfl⟩ : ∃ D', D = D' + 6 := ⟨D - 6, by omega⟩
   refine StepN.err_of ?_
   rw [w_pattern_reader_atom]
   unfold pattern_reader_atom
   have Mx := Mem.one k0 hb
   repeat (first | ((with_reducible apply Wp.mnew Mx); clear Mx; intro _ Mx) | rw [newP_eq])
   have M1 := Mx.swap
   have hs := next_r (n := n) (d := D + 3) M1.at0.1 M1.at0.2.1 hi hu
   rw [hc] at hs
   refine Wp.rdK hs M1 fun h1 M2 => ?_
   have hr := refuseLast_r (n := n) (d := D + 3) M2.at0.1 (by omega) hu
   rcases hbad with hs | hs | hs | hs | hs | hs
   ·repeat (first | (with_reducible first | (first | refine Wp.join0 (fun _ _ => ?_) | refine Wp.join1 (fun _ _ => ?_)) | refine Wp.l ?_ | (apply Wp.o; exact avInt_int _ _)) | ((with_reducible refine Wp.ift ?_ ?_); first | (with_reducible rfl) | ((with_reducible apply beq_t); omega)) | ((with_reducible refine Wp.iff ?_ ?_; apply beq_f); omega) | (with_reducible refine Wp.go1 (by assumption) ?_))
    exact Wp.callP hr ⟨rfl, _, M2.at0.1, M2.tch⟩
   ·repeat (first | (with_reducible first | (first | refine Wp.join0 (fun _ _ => ?_) | refine Wp.join1 (fun _ _ => ?_)) | refine Wp.l ?_ | (apply Wp.o; exact avInt_int _ _)) | ((with_reducible refine Wp.ift ?_ ?_); first | (with_reducible rfl) | ((with_reducible apply beq_t); omega)) | ((with_reducible refine Wp.iff ?_ ?_; apply beq_f); omega) | (with_reducible refine Wp.go1 (by assumption) ?_))
    exact Wp.callP hr ⟨rfl, _, M2.at0.1, M2.tch⟩
   ·repeat (first | (with_reducible first | (first | refine Wp.join0 (fun _ _ => ?_) | refine Wp.join1 (fun _ _ => ?_)) | refine Wp.l ?_ | (apply Wp.o; exact avInt_int _ _)) | ((with_reducible refine Wp.ift ?_ ?_); first | (with_reducible rfl) | ((with_reducible apply beq_t); omega)) | ((with_reducible refine Wp.iff ?_ ?_; apply beq_f); omega) | (with_reducible refine Wp.go1 (by assumption) ?_))
    exact Wp.callP hr ⟨rfl, _, M2.at0.1, M2.tch⟩
   ·repeat (first | (with_reducible first | (first | refine Wp.join0 (fun _ _ => ?_) | refine Wp.join1 (fun _ _ => ?_)) | refine Wp.l ?_ | (apply Wp.o; exact avInt_int _ _)) | ((with_reducible refine Wp.ift ?_ ?_); first | (with_reducible rfl) | ((with_reducible apply beq_t); omega)) | ((with_reducible refine Wp.iff ?_ ?_; apply beq_f); omega) | (with_reducible refine Wp.go1 (by assumption) ?_))
    exact Wp.callP hr ⟨rfl, _, M2.at0.1, M2.tch⟩
   ·repeat (first | (with_reducible first | (first | refine Wp.join0 (fun _ _ => ?_) | refine Wp.join1 (fun _ _ => ?_)) | refine Wp.l ?_ | (apply Wp.o; exact avInt_int _ _)) | ((with_reducible refine Wp.ift ?_ ?_); first | (with_reducible rfl) | ((with_reducible apply beq_t); omega)) | ((with_reducible refine Wp.iff ?_ ?_; apply beq_f); omega) | (with_reducible refine Wp.go1 (by assumption) ?_))
    exact Wp.callP hr ⟨rfl, _, M2.at0.1, M2.tch⟩
   ·have h93 : ((c : Int) == 93) = true := beq_t (by omega)
    repeat (first | (with_reducible first | (first | refine Wp.join0 (fun _ _ => ?_) | refine Wp.join1 (fun _ _ => ?_)) | refine Wp.l ?_ | (apply Wp.o; exact avInt_int _ _) | (refine Wp.ift ?_ ?_; assumption)) | ((with_reducible refine Wp.iff ?_ ?_; apply beq_f); omega) | (with_reducible refine Wp.go1 (by assumption) ?_))
    exact Wp.callP hr ⟨rfl, _, M2.at0.1, M2.tch⟩
  ·refine ⟨_, .one hc hbad ⟨h40, h46, h91, h92⟩, ⟨by omega, by omega⟩, ?_⟩
   intro n D b h hD hn hn2 k0 hb hx
   obtain ⟨D, rfl⟩ : ∃ D', D = D' + 6 := ⟨D - 6, by omega⟩
   refine StepN.ok_of ?_
   rw [w_pattern_reader_atom]
   unfold pattern_reader_atom
   have Mx := Mem.one k0 hb
   repeat (first | ((with_reducible apply Wp.mnew Mx); clear Mx; intro _ Mx) | rw [newP_eq])
   have M1 := Mx.swap
   have hs := next_r (n := n) (d := D + 3) M1.at0.1 M1.at0.2.1 hi hu
   rw [hc] at hs
   refine Wp.rdK hs M1 fun h1 M2 => ?_
   unfold badAtom at hbad
   have h93 : ((c : Int) == 93) = false := beq_f (by omega)
   repeat (first | (with_reducible first | (first | refine Wp.join0 (fun _ _ => ?_) | refine Wp.join1 (fun _ _ => ?_)) | refine Wp.l ?_ | (apply Wp.o; first | exact avInt_int _ _ | exact avAgg_agg _)) | ((with_reducible refine Wp.iff ?_ ?_); first | (with_reducible assumption) | ((with_reducible apply beq_f); omega)) | (with_reducible first | (apply Wp.callN; exact oneByte_w (d := D + 3) hn h256) | (first | refine Wp.go0 (by assumption) ?_ | refine Wp.go1 (by assumption) ?_)))
   exact fin_node M2 rfl (NodeT.leaf 2 (spanW_ok 1 zeroW_ok c))
end
section
variable {n d b p q i : Nat} {h h0 : AHeap} {u : Bytes} {Q : ARes → AHeap → Prop} {S : List Nat} {xs rs T : List RowT} {w : List Nat} {x : R} {t : Nd} {c : List AV} {v : AV}
theorem grow_one (c : List AV) (q : Nat) (hl : c.length = 6) (h1 : c.all AV.one = true) : GrowT TNode 6 [c] (.sl q 0 1 6) [(q, TNode, c)] := by
 refine ⟨fun r hr => ?_, .inr ⟨by simp, q, rfl, by simp⟩⟩
 rw [List.mem_singleton] at hr
 subst hr
 exact ⟨hl, h1⟩
theorem signed (kt : NodeT t c T) (op q : Nat) : NodeT (overN op [t]) (nodeC op zeroW (.sl q 0 1 6)) ([(q, TNode, c)] ++ (T ++ [])) :=
 NodeT.mk zeroW_ok (grow_one c q kt.len kt.one) (KidsT.cons kt .nil)
theorem signAt_some {c : Nat} (h : at? u i = some c) : signAt u i = signOp c := by
 unfold signAt
 rw [h]
theorem signAt_none (h42 : at? u i ≠ some 42) (h43 : at? u i ≠ some 43) (h63 : at? u i ≠ some 63) : signAt u i = 0 := by
 unfold signAt
 cases hc : at? u i with
 | none => rfl
 | some c =>
  show signOp c = 0
  rw [hc] at h42 h43 h63
  unfold signOp
  split
  ·exact absurd rfl h42
  ·exact absurd rfl h43
  ·exact absurd rfl h63
  ·rfl
theorem fin_sign {r0 n1 : Nat} {l : List AV} {D op : Nat} (M : Mem S h0 h ((b, TRd, rdP u p) :: (n1, TNode, c) :: (r0, TNode, l) :: T)) (hl : l.length = 6) (kt : NodeT t c T) (hex : memB TNode h0.ex = false) :
  Wp (obind (ldRow h 6 (.ptr n1 0)) fun t9 => outK (bldSl Try.prog h TNodes 1 [(0, .agg t9)]) fun v10 h20 => callN (world n (D + 1) 76 [.int .i64 (op : Int), v10] h20) fun r11 h22 => obind (avAgg r11) fun t11 => obind (stRow h22 6 t11 (.ptr r0 0)) fun h25 => obind (ldRow h25 6 (.ptr r0 0)) fun w => some (.ret (.agg w), h25)) fun r h' => ∃ c T, r = .ret (.agg c) ∧ NodeT (overN op [t]) c T ∧ Mem S h0 h' ((b, TRd, rdP u p) :: T) := by
 refine Wp.lr1 M kt.len ?_
 refine Wp.mnews M (kt.bld h) kt.one hex fun h1 M1 => ?_
 have g := grow_one c h.next kt.len kt.one
 obtain ⟨h2, e2, t2⟩ := over_r (n := n) (d := D) (h := h1) g op
 refine Wp.callN e2 ?_
 have M2 := M1.keep t2
 refine Wp.o (avAgg_agg _) ?_
 have M3 : Mem S h0 h2 ((b, TRd, rdP u p) :: (r0, TNode, l) :: ([(h.next, TNode, c)] ++ (T ++ []))) := by
  rw [List.append_nil]
  have M4 := M2.perm (ys := [(n1, TNode, c)] ++ ((b, TRd, rdP u p) :: (r0, TNode, l) :: ([(h.next, TNode, c)] ++ T))) (by
   refine List.Perm.trans ?_ (List.perm_append_comm (l₁ := (b, TRd, rdP u p) :: (n1, TNode, c) :: (r0, TNode, l) :: T) (l₂ := [(h.next, TNode, c)]))
   refine (List.Perm.swap _ _ _).trans ?_
   refine List.Perm.cons _ (List.Perm.cons _ (List.Perm.cons _ ?_))
   exact List.perm_append_comm)
  exact Mem.drop M4
 exact fin_node M3 hl (signed kt op h.next)
theorem part_ok (hu : u.length ≤ 1000000) {m : Nat} (ih : AtomOk u m) : PartOk u m := by
 intro i hi hm
 obtain ⟨r, r1, r2, r3⟩ := ih i hi hm
 cases r with
 | error q =>
  refine ⟨_, .bad r1, r2, ?_⟩
  intro n D b h hD hn hn2 k0 hb hx
  obtain ⟨D, rfl⟩ : ∃ D', D = D' + 7 := ⟨D - 7, by omega⟩
  refine StepN.err_of ?_
  rw [w_pattern_reader_regularPart]
  unfold pattern_reader_regularPart
  have Mx := Mem.one k0 hb
  repeat (first | ((with_reducible apply Wp.mnew Mx); clear Mx; intro _ Mx) | rw [newP_eq])
  have M1 := Mx.swap
  have hs := r3 (n := n) (D := D + 6) (by omega) hn hn2 M1.at0.1 M1.at0.2.1 (by rw [M1.ex]; exact hx)
  exact Wp.nodeE hs M1 fun h' p k1 t1 => ⟨rfl, p, k1, t1⟩
 | ok tj =>
  obtain ⟨t, j⟩ := tj
  obtain ⟨b1, b2⟩ := r2
  by_cases h42 : at? u j = some 42
  ·have hsg : signAt u j = 5 := signAt_some h42
   obtain ⟨hj, _⟩ := at?_some h42
   have rp := PartP.sign r1 (by rw [hsg]; decide)
   rw [hsg] at rp
   refine ⟨_, rp, ⟨by omega, by omega⟩, ?_⟩
   intro n D b h hD hn hn2 k0 hb hx
   obtain ⟨D, rfl⟩ : ∃ D', D = D' + 7 := ⟨D - 7, by omega⟩
   refine StepN.ok_of ?_
   rw [w_pattern_reader_regularPart]
   unfold pattern_reader_regularPart
   have Mx := Mem.one k0 hb
   repeat (first | ((with_reducible apply Wp.mnew Mx); clear Mx; intro _ Mx) | rw [newP_eq])
   have M1 := Mx.swap
   have hs := r3 (n := n) (D := D + 6) (by omega) hn hn2 M1.at0.1 M1.at0.2.1 (by rw [M1.ex]; exact hx)
   refine Wp.nodeK hs M1 fun c T h2 kt M3 => ?_
   (((with_reducible apply Wp.o); (with_reducible exact avAgg_agg _)))
   refine Wp.mnew M3 fun h3 M4 => ?_
   rw [newP_eq]
   refine Wp.sa0 M4 kt.len rfl kt.one fun h4 M5 => ?_
   have M6 := M5.swap
   have hs1 := skips_r (n := n) (d := D + 3) M6.at0.1 M6.at0.2.1 b2 hu 42
   rw [if_pos h42, decide_eq_true h42] at hs1
   refine Wp.rdN hs1 M6 fun h5 M7 => ?_
   repeat (with_reducible first | (apply Wp.o; exact avBool_bool _) | (refine Wp.ift ?_ ?_; rfl))
   exact fin_sign (D := D + 5) (op := 5) M7 rfl kt hx
  by_cases h43 : at? u j = some 43
  ·have hsg : signAt u j = 6 := signAt_some h43
   obtain ⟨hj, _⟩ := at?_some h43
   have rp := PartP.sign r1 (by rw [hsg]; decide)
   rw [hsg] at rp
   refine ⟨_, rp, ⟨by omega, by omega⟩, ?_⟩
   intro n D b h hD hn hn2 k0 hb hx
   obtain ⟨D, rfl⟩ : ∃ D', D = D' + 7 := ⟨D - 7, by omega⟩
   refine StepN.ok_of ?_
   rw [w_pattern_reader_regularPart]
   unfold pattern_reader_regularPart
   have Mx := Mem.one k0 hb
   repeat (first | ((with_reducible apply Wp.mnew Mx); clear Mx; intro _ Mx) | rw [newP_eq])
   have M1 := Mx.swap
   have hs := r3 (n := n) (D := D + 6) (by omega) hn hn2 M1.at0.1 M1.at0.2.1 (by rw [M1.ex]; exact hx)
   refine Wp.nodeK hs M1 fun c T h2 kt M3 => ?_
   (((with_reducible apply Wp.o); (with_reducible exact avAgg_agg _)))
   refine Wp.mnew M3 fun h3 M4 => ?_
   rw [newP_eq]
   refine Wp.sa0 M4 kt.len rfl kt.one fun h4 M5 => ?_
   have M6 := M5.swap
   have hs1 := skips_r (n := n) (d := D + 3) M6.at0.1 M6.at0.2.1 b2 hu 42
   rw [if_neg h42, decide_eq_false h42] at hs1
   refine Wp.rdN hs1 M6 fun h5 M7 => ?_
   have hs2 := skips_r (n := n) (d := D + 3) M7.at0.1 M7.at0.2.1 b2 hu 43
   rw [if_pos h43, decide_eq_true h43] at hs2
   repeat (with_reducible first | (apply Wp.o; exact avBool_bool _) | (refine Wp.iff ?_ ?_; rfl))
   refine Wp.rdN hs2 M7 fun h6 M8 => ?_
   repeat (with_reducible first | (apply Wp.o; exact avBool_bool _) | (refine Wp.ift ?_ ?_; rfl))
   exact fin_sign (D := D + 5) (op := 6) M8 rfl kt hx
  by_cases h63 : at? u j = some 63
  ·have hsg : signAt u j = 7 := signAt_some h63
   obtain ⟨hj, _⟩ := at?_some h63
   have rp := PartP.sign r1 (by rw [hsg]; decide)
   rw [hsg] at rp
   refine ⟨_, rp, ⟨by omega, by omega⟩, ?_⟩
   intro n D b h hD hn hn2 k0 hb hx
   obtain ⟨D, rfl⟩ : ∃ D', D = D' + 7 := ⟨D - 7, by omega⟩
   refine StepN.ok_of ?_
   rw [w_pattern_reader_regularPart]
   unfold pattern_reader_regularPart
   have Mx := Mem.one k0 hb
   repeat (first | ((with_reducible apply Wp.mnew Mx); clear Mx; intro _ Mx) | rw [newP_eq])
   have M1 := Mx.swap
   have hs := r3 (n := n) (D := D + 6) (by omega) hn hn2 M1.at0.1 M1.at0.2.1 (by rw [M1.ex]; exact hx)
   refine Wp.nodeK hs M1 fun c T h2 kt M3 => ?_
   (((with_reducible apply Wp.o); (with_reducible exact avAgg_agg _)))
   refine Wp.mnew M3 fun h3 M4 => ?_
   rw [newP_eq]
   refine Wp.sa0 M4 kt.len rfl kt.one fun h4 M5 => ?_
   have M6 := M5.swap
   have hs1 := skips_r (n := n) (d := D + 3) M6.at0.1 M6.at0.2.1 b2 hu 42
   rw [if_neg h42, decide_eq_false h42] at hs1
   refine Wp.rdN hs1 M6 fun h5 M7 => ?_
   have hs2 := skips_r (n := n) (d := D + 3) M7.at0.1 M7.at0.2.1 b2 hu 43
   rw [if_neg h43, decide_eq_false h43] at hs2
   repeat (with_reducible first | (apply Wp.o; exact avBool_bool _) | (refine Wp.iff ?_ ?_; rfl))
   refine Wp.rdN hs2 M7 fun h6 M8 => ?_
   have hs3 := skips_r (n := n) (d := D + 3) M8.at0.1 M8.at0.2.1 b2 hu 63
   rw [if_pos h63, decide_eq_true h63] at hs3
   repeat (with_reducible first | (apply Wp.o; exact avBool_bool _) | (refine Wp.iff ?_ ?_; rfl))
   refine Wp.rdN hs3 M8 fun h7 M9 => ?_
   repeat (with_reducible first | (apply Wp.o; exact avBool_bool _) | (refine Wp.ift ?_ ?_; rfl))
   exact fin_sign (D := D + 5) (op := 7) M9 rfl kt hx
  ·have hsg := signAt_none h42 h43 h63
   refine ⟨_, .bare r1 hsg, ⟨b1, b2⟩, ?_⟩
   intro n D b h hD hn hn2 k0 hb hx
   obtain ⟨D, rfl⟩ : ∃ D', D = D' + 7 := ⟨D - 7, by omega⟩
   refine StepN.ok_of ?_
   rw [w_pattern_reader_regularPart]
   unfold pattern_reader_regularPart
   have Mx := Mem.one k0 hb
   repeat (first | ((with_reducible apply Wp.mnew Mx); clear Mx; intro _ Mx) | rw [newP_eq])
   have M1 := Mx.swap
   have hs := r3 (n := n) (D := D + 6) (by omega) hn hn2 M1.at0.1 M1.at0.2.1 (by rw [M1.ex]; exact hx)
   refine Wp.nodeK hs M1 fun c T h2 kt M3 => ?_
   (((with_reducible apply Wp.o); (with_reducible exact avAgg_agg _)))
   refine Wp.mnew M3 fun h3 M4 => ?_
   rw [newP_eq]
   refine Wp.sa0 M4 kt.len rfl kt.one fun h4 M5 => ?_
   have M6 := M5.swap
   have hs1 := skips_r (n := n) (d := D + 3) M6.at0.1 M6.at0.2.1 b2 hu 42
   rw [if_neg h42, decide_eq_false h42] at hs1
   refine Wp.rdN hs1 M6 fun h5 M7 => ?_
   have hs2 := skips_r (n := n) (d := D + 3) M7.at0.1 M7.at0.2.1 b2 hu 43
   rw [if_neg h43, decide_eq_false h43] at hs2
   repeat (with_reducible first | (apply Wp.o; exact avBool_bool _) | (refine Wp.iff ?_ ?_; rfl))
   refine Wp.rdN hs2 M7 fun h6 M8 => ?_
   have hs3 := skips_r (n := n) (d := D + 3) M8.at0.1 M8.at0.2.1 b2 hu 63
   rw [if_neg h63, decide_eq_false h63] at hs3
   repeat (with_reducible first | (apply Wp.o; exact avBool_bool _) | (refine Wp.iff ?_ ?_; rfl))
   refine Wp.rdN hs3 M8 fun h7 M9 => ?_
   repeat (with_reducible first | (apply Wp.o; exact avBool_bool _) | (refine Wp.iff ?_ ?_; rfl))
   refine Wp.lr1 M9 kt.len ?_
   exact fin_node (mem_mid (xs := [_]) (T0 := [_]) M9) rfl kt
end
open Go.RowKit Abs
section
variable {n d b p q i m : Nat} {h h0 : AHeap} {u : Bytes} {Q : ARes → AHeap → Prop} {S : List Nat} {xs rs T T0 T1 : List RowT} {w : List Nat} {x : R} {t : Nd} {c : List AV} {v kv : AV} {l : List Nd} {kc : List (List AV)}
theorem StepN.of_main {r : Res} (main : ∀ Q : ARes → AHeap → Prop, (∀ t j c T H', r = .ok (t, j) → NodeT t c T → Mem [b] h H' ((b, TRd, rdP u j) :: T) → Q (.ret (.agg c)) H') → (∀ e p H', r = .error e → Rd H' b u p → Tch [b] h H' → Q (.panic (PanA 6 e)) H') → Wp x Q) : StepN b u h x r := by
 cases r with
 | error e => exact StepN.err_of (main _ (fun t j c T H' hh => by cases hh) fun e' p H' hh k5 t5 => by cases hh; exact ⟨rfl, p, k5, t5⟩)
 | ok tj =>
  obtain ⟨t, j⟩ := tj
  exact StepN.ok_of (main _ (fun t' j' c T H' hh k5 t5 => by cases hh; exact ⟨c, T, rfl, k5, t5⟩) fun e' p H' hh => by cases hh)
theorem Wp.nodeGrow {K : AV → AHeap → R} {y z : RowT} (M : Mem S h0 h (y :: ((z :: (T0 ++ T1)) ++ T))) (g : GrowT TNode 6 kc kv T0) (ks : KidsT l kc T1) (kt : NodeT t c T) (hex : memB TNode h0.ex = false) (hl : l.length ≤ 1000001)
  (hk : ∀ kv' h' T0', GrowT TNode 6 (kc ++ [c]) kv' T0' → KidsT (l ++ [t]) (kc ++ [c]) (T1 ++ T) → Mem S h0 h' (y :: z :: (T0' ++ (T1 ++ T))) → Wp (K kv' h') Q) :
  Wp (outK (bldSl Try.prog h TNodes 1 [(0, .agg c)]) fun v12 h29 => outK (opAppend Try.prog h29 TNodes TNodes kv v12) fun v13 h31 => K v13 h31) Q := by
 refine Wp.mnews M (kt.bld h) kt.one hex fun h1 M1 => ?_
 have M2 : Mem S h0 h1 ((h.next, TNode, c) :: (y :: z :: (T1 ++ T)) ++ T0) := M1.perm (by
  refine List.Perm.cons _ (List.Perm.cons _ (List.Perm.cons _ ?_))
  show ((T1 ++ T) ++ T0).Perm ((T0 ++ T1) ++ T)
  rw [List.append_assoc T0]
  exact List.perm_append_comm)
 have hkl := ks.len
 refine Wp.grow M2 g (by kernel_rfl) (by kernel_rfl) (by kernel_rfl) (B := 64) (by kernel_rfl) hex kt.len kt.one (by omega) (by omega) fun kv' h' T0' g' M3 => ?_
 refine hk kv' h' T0' g' (KidsT.snoc kt ks) (M3.perm ?_)
 exact List.Perm.cons _ (List.Perm.cons _ List.perm_append_comm)
theorem at?_none (h : at? u i = none) (hi : i ≤ u.length) : i = u.length := by
 by_cases hp : i < u.length
 ·rw [at?_lt hp] at h
  cases h
 ·omega
theorem row_loop (hu : u.length ≤ 1000000) (ih : PartOk u m) : ∀ (k i : Nat) (l : List Nd), i ≤ u.length → u.length - i ≤ m → u.length - i < k → l.length ≤ i → ∃ r, RowP u l i r ∧ Bnd u i r ∧
   ∀ {n D f b r0 : Nat} {S : List Nat} {h0 H : AHeap} {kc : List (List AV)} {kv : AV} {T0 T1 : List RowT} {z : List AV} {k7 : AV → AHeap → R} {Q : ARes → AHeap → Prop}, 4 * m + 7 ≤ D → 300 < n → u.length + 5 < n → u.length - i < f → GrowT TNode 6 kc kv T0 → KidsT l kc T1 → memB TNode h0.ex = false →
    Mem S h0 H ((b, TRd, rdP u i) :: (r0, TNode, z) :: (T0 ++ T1)) →
    (∀ l' j kc kv T0 T1 H', r = .ok (joinN 3 l', j) → GrowT TNode 6 kc kv T0 → KidsT l' kc T1 → Mem S h0 H' ((b, TRd, rdP u j) :: (r0, TNode, z) :: (T0 ++ T1)) → Wp (k7 kv H') Q) →
    (∀ e p H', r = .error e → Rd H' b u p → Tch S h0 H' → Q (.panic (PanA 6 e)) H') →
    Wp (pattern_reader_regularRow_L0 (world n D) (.ptr b 0) k7 f kv H) Q
 | 0, _, _, _, _, hk, _ => by omega
 | k + 1, i, l, hi, hm, hk, hli => by
  by_cases hst : stops u i
  ·refine ⟨_, .stop hst, ⟨Nat.le_refl _, hi⟩, ?_⟩
   intro n D f b r0 S h0 H kc kv T0 T1 z k7 Q hD hn hn2 hf g ks hex M hok hbad
   obtain ⟨D, rfl⟩ : ∃ D', D = D' + 7 := ⟨D - 7, by omega⟩
   cases f with
   | zero => omega
   | succ f =>
    have he := ended_r (n := n) (d := D + 6) M.at0.1
    have h1 : world n (D + 7) 68 [.ptr b 0, .int .u8 124] H = some (.ret (.bool (decide (at? u i = some 124))), H) := sees_r (n := n) (d := D + 5) M.at0.1 hi 124
    have h2 : world n (D + 7) 68 [.ptr b 0, .int .u8 41] H = some (.ret (.bool (decide (at? u i = some 41))), H) := sees_r (n := n) (d := D + 5) M.at0.1 hi 41
    have hfin := hok l i kc kv T0 T1 H rfl g ks M
    rw [pattern_reader_regularRow_L0_s]
    unfold pattern_reader_regularRow_L0b
    rcases hst with hc | hc | hc
    ·have := at?_none hc hi
     rw [decide_eq_true this] at he
     repeat (with_reducible first | refine Wp.join1 (fun _ _ => ?_) | refine Wp.l ?_ | (apply Wp.o; exact avBool_bool _) | (refine Wp.iff ?_ ?_; first | rfl | exact Bool.not_true) | (apply Wp.callN; assumption) | refine Wp.go1 (by assumption) ?_)
     exact hfin
    ·obtain ⟨hp, _⟩ := at?_some hc
     rw [decide_eq_false (by omega)] at he
     rw [decide_eq_true hc] at h1
     repeat (with_reducible first | refine Wp.join1 (fun _ _ => ?_) | refine Wp.l ?_ | (apply Wp.o; exact avBool_bool _) | (refine Wp.ift ?_ ?_; exact Bool.not_false) | (refine Wp.iff ?_ ?_; first | rfl | exact Bool.not_true) | (apply Wp.callN; assumption) | refine Wp.go1 (by assumption) ?_)
     exact hfin
    ·obtain ⟨hp, _⟩ := at?_some hc
     rw [decide_eq_false (by omega)] at he
     rw [decide_eq_false (by rw [hc]; decide)] at h1
     rw [decide_eq_true hc] at h2
     repeat (with_reducible first | refine Wp.join1 (fun _ _ => ?_) | refine Wp.l ?_ | (apply Wp.o; exact avBool_bool _) | (refine Wp.ift ?_ ?_; exact Bool.not_false) | (refine Wp.iff ?_ ?_; exact Bool.not_true) | (apply Wp.callN; assumption) | refine Wp.go1 (by assumption) ?_)
     exact hfin
  ·have hlt : i < u.length := by
    rcases Nat.lt_or_ge i u.length with h | h
    ·exact h
    ·exact absurd (.inl (at?_ge h)) hst
   have n1 : at? u i ≠ some 124 := fun hh => hst (.inr (.inl hh))
   have n2 : at? u i ≠ some 41 := fun hh => hst (.inr (.inr hh))
   obtain ⟨r, r1, r2, r3⟩ := ih i hi hm
   cases r with
   | error e =>
    refine ⟨_, .bad hst r1, r2, ?_⟩
    intro n D f b r0 S h0 H kc kv T0 T1 z k7 Q hD hn hn2 hf g ks hex M hok hbad
    obtain ⟨D, rfl⟩ : ∃ D', D = D' + 7 := ⟨D - 7, by omega⟩
    cases f with
    | zero => omega
    | succ f =>
     have he := ended_r (n := n) (d := D + 6) M.at0.1
     have h1 : world n (D + 7) 68 [.ptr b 0, .int .u8 124] H = some (.ret (.bool (decide (at? u i = some 124))), H) := sees_r (n := n) (d := D + 5) M.at0.1 hi 124
     have h2 : world n (D + 7) 68 [.ptr b 0, .int .u8 41] H = some (.ret (.bool (decide (at? u i = some 41))), H) := sees_r (n := n) (d := D + 5) M.at0.1 hi 41
     rw [decide_eq_false (by omega)] at he
     rw [decide_eq_false n1] at h1
     rw [decide_eq_false n2] at h2
     have hs := r3 (n := n) (D := D + 7) (by omega) hn hn2 M.at0.1 M.at0.2.1 (by rw [M.ex]; exact hex)
     rw [pattern_reader_regularRow_L0_s]
     unfold pattern_reader_regularRow_L0b
     repeat (first | (with_reducible first | refine Wp.join1 (fun _ _ => ?_) | refine Wp.l ?_ | (apply Wp.o; exact avBool_bool _) | (refine Wp.ift ?_ ?_; exact Bool.not_false)) | ((with_reducible first | apply Wp.callN | apply Wp.callK); (with_reducible assumption)) | (with_reducible refine Wp.go1 (by assumption) ?_))
     exact Wp.nodeE hs M fun h' p k1 t1 => hbad e p h' rfl k1 t1
   | ok tj =>
    obtain ⟨t, j⟩ := tj
    obtain ⟨b1, b2⟩ := r2
    obtain ⟨r, q1, q2, q3⟩ := row_loop hu ih k j (l ++ [t]) b2 (by omega) (by omega) (by simp; omega)
    refine ⟨r, .more hst r1 q1, ?_, ?_⟩
    ·cases r with
     | error e => exact q2
     | ok tj2 =>
      obtain ⟨a1, a2⟩ := q2
      exact ⟨by omega, a2⟩
    ·intro n D f b r0 S h0 H kc kv T0 T1 z k7 Q hD hn hn2 hf g ks hex M hok hbad
     obtain ⟨D, rfl⟩ : ∃ D', D = D' + 7 := ⟨D - 7, by omega⟩
     cases f with
     | zero => omega
     | succ f =>
      have he := ended_r (n := n) (d := D + 6) M.at0.1
      have h1 : world n (D + 7) 68 [.ptr b 0, .int .u8 124] H = some (.ret (.bool (decide (at? u i = some 124))), H) := sees_r (n := n) (d := D + 5) M.at0.1 hi 124
      have h2 : world n (D + 7) 68 [.ptr b 0, .int .u8 41] H = some (.ret (.bool (decide (at? u i = some 41))), H) := sees_r (n := n) (d := D + 5) M.at0.1 hi 41
      rw [decide_eq_false (by omega)] at he
      rw [decide_eq_false n1] at h1
      rw [decide_eq_false n2] at h2
      have hs := r3 (n := n) (D := D + 7) (by omega) hn hn2 M.at0.1 M.at0.2.1 (by rw [M.ex]; exact hex)
      rw [pattern_reader_regularRow_L0_s]
      unfold pattern_reader_regularRow_L0b
      repeat (first | (with_reducible first | refine Wp.join1 (fun _ _ => ?_) | refine Wp.l ?_ | (apply Wp.o; exact avBool_bool _) | (refine Wp.ift ?_ ?_; exact Bool.not_false)) | ((with_reducible first | apply Wp.callN | apply Wp.callK); (with_reducible assumption)) | (with_reducible refine Wp.go1 (by assumption) ?_))
      refine Wp.nodeK hs M fun c T h2 kt M3 => ?_
      (((with_reducible apply Wp.o); (with_reducible exact avAgg_agg _)))
      refine Wp.nodeGrow M3 g ks kt hex (by omega) fun kv' h' T0' g' ks' M4 => ?_
      exact q3 hD hn hn2 (by omega) g' ks' hex M4 hok hbad
theorem row_ok (hu : u.length ≤ 1000000) (ih : PartOk u m) : RowOk u m := by
 intro i hi hm
 obtain ⟨r, r1, r2, r3⟩ := row_loop hu ih (u.length + 1) i [] hi hm (by omega) (Nat.zero_le _)
 refine ⟨r, r1, r2, ?_⟩
 intro n D b h hD hn hn2 k0 hb hx
 obtain ⟨D, rfl⟩ : ∃ D', D = D' + 8 := ⟨D - 8, by omega⟩
 refine StepN.of_main fun Q q1 q2 => ?_
 rw [w_pattern_reader_regularRow]
 unfold pattern_reader_regularRow
 refine Wp.mnew (Mem.one k0 hb) fun h1 Mx => ?_
 rw [newP_eq]
 have M1 := Mx.swap
 ((with_reducible refine Wp.join1 (fun _ _ => ?_)))
 rename_i k7 ek7
 refine r3 (r0 := h.next) (by omega) hn hn2 (by omega) (GrowT.nil _ _) .nil hx M1 ?_ q2
 intro l' j kc kv T0 T1 H' hr g ks M2
 refine Wp.go1 ek7 ?_
 obtain ⟨c, T, h2, e2, kt, M3⟩ := inRow_r (n := n) (d := D + 5) (xs := [_, _]) M2 g ks
 repeat (with_reducible first | (apply Wp.o; exact avAgg_agg _) | (apply Wp.callN; assumption))
 refine (fin_node M3 rfl kt).mono ?_
 rintro _ h3 ⟨c3, T3, rfl, kt3, M4⟩
 exact q1 _ _ _ _ _ hr kt3 M4
end
section
variable {n d b p q i m : Nat} {h h0 : AHeap} {u : Bytes} {Q : ARes → AHeap → Prop} {S : List Nat} {xs rs T T0 T1 : List RowT} {w : List Nat} {x : R} {t : Nd} {c : List AV} {v kv : AV} {l : List Nd} {kc : List (List AV)}
theorem alt_loop (hu : u.length ≤ 1000000) (ih : RowOk u m) : ∀ (k j : Nat) (l : List Nd), j ≤ u.length → u.length - j ≤ m → u.length - j < k → l.length ≤ j + 1 → l ≠ [] → ∃ r, (at? u j = some 124 → AltP u l (j + 1) r) ∧ (at? u j ≠ some 124 → r = .ok (joinN 4 l, j)) ∧ Bnd u j r ∧
   ∀ {n D f b r0 : Nat} {S : List Nat} {h0 H : AHeap} {kc : List (List AV)} {kv : AV} {T0 T1 : List RowT} {z : List AV} {k12 : AV → AHeap → R} {Q : ARes → AHeap → Prop}, 4 * m + 8 ≤ D → 300 < n → u.length + 5 < n → u.length - j < f → GrowT TNode 6 kc kv T0 → KidsT l kc T1 → memB TNode h0.ex = false →
    Mem S h0 H ((b, TRd, rdP u j) :: (r0, TNode, z) :: (T0 ++ T1)) →
    (∀ l' j kc kv T0 T1 H', l' ≠ [] → r = .ok (joinN 4 l', j) → GrowT TNode 6 kc kv T0 → KidsT l' kc T1 → Mem S h0 H' ((b, TRd, rdP u j) :: (r0, TNode, z) :: (T0 ++ T1)) → Wp (k12 kv H') Q) →
    (∀ e p H', r = .error e → Rd H' b u p → Tch S h0 H' → Q (.panic (PanA 6 e)) H') →
    Wp (pattern_reader_alternatives_L0 (world n D) (.ptr b 0) k12 f kv H) Q
 | 0, _, _, _, _, hk, _, _ => by omega
 | k + 1, j, l, hi, hm, hk, hli, hne => by
  by_cases hst : at? u j = some 124
  ·obtain ⟨hp, _⟩ := at?_some hst
   obtain ⟨r, r1, r2, r3⟩ := ih (j + 1) (by omega) (by omega)
   cases r with
   | error e =>
    refine ⟨.error e, fun _ => .bad r1, fun hh => absurd hst hh, r2, ?_⟩
    intro n D f b r0 S h0 H kc kv T0 T1 z k12 Q hD hn hn2 hf g ks hex M hok hbad
    obtain ⟨D, rfl⟩ : ∃ D', D = D' + 8 := ⟨D - 8, by omega⟩
    cases f with
    | zero => omega
    | succ f =>
     rw [pattern_reader_alternatives_L0_s]
     unfold pattern_reader_alternatives_L0b
     have hs1 := skips_r (n := n) (d := D + 5) M.at0.1 M.at0.2.1 hi hu 124
     rw [if_pos hst, decide_eq_true hst] at hs1
     refine Wp.rdN hs1 M fun h1 M1 => ?_
     have hs := r3 (n := n) (D := D + 8) (by omega) hn hn2 M1.at0.1 M1.at0.2.1 (by rw [M1.ex]; exact hex)
     repeat (with_reducible first | (apply Wp.o; exact avBool_bool _) | (refine Wp.ift ?_ ?_; rfl))
     exact Wp.nodeE hs M1 fun h' p k1 t1 => hbad e p h' rfl k1 t1
   | ok tj =>
    obtain ⟨t, j2⟩ := tj
    obtain ⟨b1, b2⟩ := r2
    obtain ⟨r, q1, q2, q3, q4⟩ := alt_loop hu ih k j2 (l ++ [t]) b2 (by omega) (by omega) (by simp; omega) (by simp)
    refine ⟨r, fun _ => ?_, fun hh => absurd hst hh, ?_, ?_⟩
    ·by_cases h2 : at? u j2 = some 124
     ·exact .more r1 h2 (q1 h2)
     ·rw [q2 h2]
      exact .last r1 h2
    ·cases r with
     | error e => exact q3
     | ok tj2 =>
      obtain ⟨a1, a2⟩ := q3
      exact ⟨by omega, a2⟩
    ·intro n D f b r0 S h0 H kc kv T0 T1 z k12 Q hD hn hn2 hf g ks hex M hok hbad
     obtain ⟨D, rfl⟩ : ∃ D', D = D' + 8 := ⟨D - 8, by omega⟩
     cases f with
     | zero => omega
     | succ f =>
      rw [pattern_reader_alternatives_L0_s]
      unfold pattern_reader_alternatives_L0b
      have hs1 := skips_r (n := n) (d := D + 5) M.at0.1 M.at0.2.1 hi hu 124
      rw [if_pos hst, decide_eq_true hst] at hs1
      refine Wp.rdN hs1 M fun h1 M1 => ?_
      have hs := r3 (n := n) (D := D + 8) (by omega) hn hn2 M1.at0.1 M1.at0.2.1 (by rw [M1.ex]; exact hex)
      repeat (with_reducible first | (apply Wp.o; exact avBool_bool _) | (refine Wp.ift ?_ ?_; rfl))
      refine Wp.nodeK hs M1 fun c T h2 kt M3 => ?_
      (((with_reducible apply Wp.o); (with_reducible exact avAgg_agg _)))
      refine Wp.nodeGrow M3 g ks kt hex (by omega) fun kv' h' T0' g' ks' M4 => ?_
      exact q4 hD hn hn2 (by omega) g' ks' hex M4 hok hbad
  ·refine ⟨.ok (joinN 4 l, j), fun hh => absurd hh hst, fun _ => rfl, ⟨Nat.le_refl _, hi⟩, ?_⟩
   intro n D f b r0 S h0 H kc kv T0 T1 z k12 Q hD hn hn2 hf g ks hex M hok hbad
   obtain ⟨D, rfl⟩ : ∃ D', D = D' + 8 := ⟨D - 8, by omega⟩
   cases f with
   | zero => omega
   | succ f =>
    rw [pattern_reader_alternatives_L0_s]
    unfold pattern_reader_alternatives_L0b
    have hs1 := skips_r (n := n) (d := D + 5) M.at0.1 M.at0.2.1 hi hu 124
    rw [if_neg hst, decide_eq_false hst] at hs1
    refine Wp.rdN hs1 M fun h1 M1 => ?_
    repeat (with_reducible first | (apply Wp.o; exact avBool_bool _) | (refine Wp.iff ?_ ?_; rfl))
    exact hok l j kc kv T0 T1 h1 hne rfl g ks M1
theorem alt_ok (hu : u.length ≤ 1000000) (ih : RowOk u m) : AltOk u m := by
 intro i hi hm
 obtain ⟨r, r1, r2, r3⟩ := ih i hi hm
 cases r with
 | error e =>
  refine ⟨.error e, .bad r1, r2, ?_⟩
  intro n D b h hD hn hn2 k0 hb hx
  obtain ⟨D, rfl⟩ : ∃ D', D = D' + 9 := ⟨D - 9, by omega⟩
  refine StepN.err_of ?_
  rw [w_pattern_reader_alternatives]
  unfold pattern_reader_alternatives
  refine Wp.mnew (Mem.one k0 hb) fun h1 Mx => ?_
  have M1 := Mx.swap
  have hs := r3 (n := n) (D := D + 8) (by omega) hn hn2 M1.at0.1 M1.at0.2.1 (by rw [M1.ex]; exact hx)
  exact Wp.nodeE hs M1 fun h' p k1 t1 => ⟨rfl, p, k1, t1⟩
 | ok tj =>
  obtain ⟨t, j⟩ := tj
  obtain ⟨b1, b2⟩ := r2
  obtain ⟨r, q1, q2, q3, q4⟩ := alt_loop hu ih (u.length + 1) j [t] b2 (by omega) (by omega) (by simp) (by simp)
  refine ⟨r, ?_, ?_, ?_⟩
  ·by_cases h2 : at? u j = some 124
   ·exact .more (l := []) r1 h2 (q1 h2)
   ·rw [q2 h2]
    exact .last (l := []) r1 h2
  ·cases r with
   | error e => exact q3
   | ok tj2 =>
    obtain ⟨a1, a2⟩ := q3
    exact ⟨by omega, a2⟩
  intro n D b h hD hn hn2 k0 hb hx
  obtain ⟨D, rfl⟩ : ∃ D', D = D' + 9 := ⟨D - 9, by omega⟩
  refine StepN.of_main fun Q o1 o2 => ?_
  rw [w_pattern_reader_alternatives]
  unfold pattern_reader_alternatives
  refine Wp.mnew (Mem.one k0 hb) fun h1 Mx => ?_
  have M1 := Mx.swap
  have hs := r3 (n := n) (D := D + 8) (by omega) hn hn2 M1.at0.1 M1.at0.2.1 (by rw [M1.ex]; exact hx)
  refine Wp.nodeK hs M1 fun c T h2 kt M3 => ?_
  (((with_reducible apply Wp.o); (with_reducible exact avAgg_agg _)))
  refine Wp.mnews M3 (kt.bld h2) kt.one hx fun h3 M4 => ?_
  ((with_reducible refine Wp.join1 (fun _ _ => ?_)))
  rename_i k12 ek12
  have M5 : Mem [b] h h3 ((b, TRd, rdP u j) :: (h.next, TNode, [.int .i64 0, .int .u64 0, .int .u64 0, .int .u64 0, .int .u64 0, .nsl]) :: ([(h2.next, TNode, c)] ++ (T ++ []))) := M4.perm (by
   rw [List.append_nil]
   exact List.perm_append_comm_assoc [_, _] [_] T)
  refine q4 (r0 := h.next) (by omega) hn hn2 (by omega) (grow_one c h2.next kt.len kt.one) (KidsT.cons kt .nil) hx M5 ?_ o2
  intro l' j' kc kv T0 T1 H' hne hr g ks M6
  refine Wp.go1 ek12 ?_
  have hlen := g.len
  have hkl := ks.len
  match l', hne, hr, ks, hkl with
  | [t'], _, hr, ks, hkl =>
   obtain ⟨c', rfl, kt'⟩ := ks.one
   obtain ⟨q, rfl, rfl⟩ := grow_single g
   have ei : idxP 6 (.sl q 0 1 6) 0 = some (.ptr q 0) := idx0 q 0
   have hl1 : lenL (.sl q 0 1 6) = some 1 := rfl
   repeat (first | (with_reducible first | refine Wp.l ?_ | (apply Wp.o; first | exact hl1 | exact ei)) | ((with_reducible refine Wp.ift ?_ ?_; apply beq_t); omega) | rw [newP_eq])
   refine Wp.o (RowH.ldAll (Mem.at (xs := [_, _]) M6).1 kt'.len) ?_
   refine (fin_node (mem_mid (xs := [_, _]) (T0 := [_]) M6) rfl kt').mono ?_
   rintro _ h3 ⟨c3, T3, rfl, kt3, M7⟩
   exact o1 _ _ _ _ _ hr kt3 M7
  | t1 :: t2 :: ts, _, hr, ks, hkl =>
   simp only [List.length_cons] at hkl
   have hl := nodeC_len (kv := kv) (op := 4) zeroW_ok
   have ho := nodeC_one (op := 4) (w := zeroW) g.one.1
   obtain ⟨h4, e4, t4⟩ := over_r (n := n) (d := D + 7) (h := H') g 4
   have kt4 : NodeT (joinN 4 (t1 :: t2 :: ts)) (nodeC 4 zeroW kv) (T0 ++ T1) := NodeT.mk zeroW_ok g ks
   have e5 : world n (D + 8) 76 [.int .i64 4, kv] H' = some (.ret (.agg (nodeC 4 zeroW kv)), h4) := e4
   repeat (first | (with_reducible first | refine Wp.l ?_ | (apply Wp.o; first | exact hlen | exact avAgg_agg _)) | ((with_reducible refine Wp.iff ?_ ?_; apply beq_f); omega) | (with_reducible apply Wp.callN; exact e5) | rw [newP_eq])
   refine (fin_node (M6.keep t4) rfl kt4).mono ?_
   rintro _ h3 ⟨c3, T3, rfl, kt3, M7⟩
   exact o1 _ _ _ _ _ hr kt3 M7
theorem alts_ok (hu : u.length ≤ 1000000) : ∀ m, AltOk u m
 | 0 => alt_ok hu (row_ok hu (part_ok hu (atom_ok hu fun m' hm => by omega)))
 | m + 1 => alt_ok hu (row_ok hu (part_ok hu (atom_ok hu fun m' hm => by
   obtain rfl : m = m' := by omega
   exact alts_ok hu m)))
end
def partL (u : Bytes) (i : Nat) : Res := match at? u i with
 | none => .error i
 | some c => .ok (oneN c, i + 1)
def partG (u : Bytes) (i : Nat) : Res := match at? u i with
 | none => .error i
 | some c => if c = 42 then .ok (overN 5 [anyN], i + 1) else if c = 63 then .ok (anyN, i + 1) else if c = 92 then (match at? u (i + 1) with
   | none => .error (i + 1)
   | some e => .ok (oneN e, i + 2))
  else .ok (oneN c, i + 1)
inductive FlatP (F : Nat → Res) (u : Bytes) : List Nd → Nat → Res → Prop
 | stop {l : List Nd} {i : Nat} (s : u.length ≤ i) : FlatP F u l i (.ok (joinN 3 l, i))
 | bad {l : List Nd} {i q : Nat} (s : i < u.length) (h : F i = .error q) : FlatP F u l i (.error q)
 | more {l : List Nd} {i j : Nat} {t : Nd} {r : Res} (s : i < u.length) (h : F i = .ok (t, j)) (m : FlatP F u (l ++ [t]) j r) : FlatP F u l i r
def PartF (u : Bytes) (fid : Nat) (F : Nat → Res) : Prop := (∀ i, i ≤ u.length → Bnd1 u i (F i)) ∧
 ∀ {n D b i : Nat} {h : AHeap}, 4 ≤ D → 300 < n → i ≤ u.length → Rd h b u i → b < h.next → memB TNode h.ex = false → StepN b u h (world n D fid [.ptr b 0] h) (F i)
theorem dynL (call : CallF) (b : Nat) (h : AHeap) : dynC Try.prog call (AV.fn 63 [.ptr b 0] []) [] h = call 63 [.ptr b 0] h := by
 have e : callV Try.prog h [] (some (AV.fn 63 [.ptr b 0] [])) = some (.call 63 [.ptr b 0], h) := by kernel_rfl
 unfold dynC
 rw [e]
theorem dynG (call : CallF) (b : Nat) (h : AHeap) : dynC Try.prog call (AV.fn 60 [.ptr b 0] []) [] h = call 60 [.ptr b 0] h := by
 have e : callV Try.prog h [] (some (AV.fn 60 [.ptr b 0] [])) = some (.call 60 [.ptr b 0], h) := by kernel_rfl
 unfold dynC
 rw [e]
section
variable {n d b p q i m : Nat} {h h0 : AHeap} {u : Bytes} {Q : ARes → AHeap → Prop} {S : List Nat} {xs rs T T0 T1 : List RowT} {w : List Nat} {x : R} {t : Nd} {c : List AV} {v kv : AV} {l : List Nd} {kc : List (List AV)}
theorem partL_f (hu : u.length ≤ 1000000) : PartF u 63 (partL u) := by
 refine ⟨fun i hi => ?_, ?_⟩
 ·unfold partL
  cases hc : at? u i with
  | none => exact hi
  | some c =>
   obtain ⟨hp, _⟩ := at?_some hc
   exact ⟨by omega, by omega⟩
 intro n D b i h hD hn hi k0 hb hx
 obtain ⟨D, rfl⟩ : ∃ D', D = D' + 4 := ⟨D - 4, by omega⟩
 unfold partL
 cases hc : at? u i with
 | none =>
  refine StepN.err_of ?_
  rw [w_pattern_reader_literalPart]
  unfold pattern_reader_literalPart
  refine Wp.mnew (Mem.one k0 hb) fun h1 Mx => ?_
  have M1 := Mx.swap
  have hs := next_r (n := n) (d := D + 1) M1.at0.1 M1.at0.2.1 hi hu
  rw [hc] at hs
  exact Wp.rdE hs M1 fun h' p k1 t1 => ⟨rfl, p, k1, t1⟩
 | some c =>
  have h256 := at?_256 hc
  refine StepN.ok_of ?_
  rw [w_pattern_reader_literalPart]
  unfold pattern_reader_literalPart
  refine Wp.mnew (Mem.one k0 hb) fun h1 Mx => ?_
  have M1 := Mx.swap
  have hs := next_r (n := n) (d := D + 1) M1.at0.1 M1.at0.2.1 hi hu
  rw [hc] at hs
  refine Wp.rdK hs M1 fun h2 M2 => ?_
  repeat (first | (with_reducible first | (apply Wp.o; first | exact avInt_int _ _ | exact avAgg_agg _) | (apply Wp.callN; exact oneByte_w (d := D + 1) hn h256)) | rw [newP_eq])
  exact fin_node M2 rfl (NodeT.leaf 2 (spanW_ok 1 zeroW_ok c))
theorem partG_f (hu : u.length ≤ 1000000) : PartF u 60 (partG u) := by
 refine ⟨fun i hi => ?_, ?_⟩
 ·unfold partG
  cases hc : at? u i with
  | none => exact hi
  | some c =>
   obtain ⟨hp, _⟩ := at?_some hc
   dsimp only
   split
   ·exact ⟨by omega, by omega⟩
   ·split
    ·exact ⟨by omega, by omega⟩
    ·split
     ·cases he : at? u (i + 1) with
      | none => exact (by omega : i + 1 ≤ u.length)
      | some e =>
       obtain ⟨hp2, _⟩ := at?_some he
       exact ⟨by omega, by omega⟩
     ·exact ⟨by omega, by omega⟩
 intro n D b i h hD hn hi k0 hb hx
 obtain ⟨D, rfl⟩ : ∃ D', D = D' + 4 := ⟨D - 4, by omega⟩
 unfold partG
 cases hc : at? u i with
 | none =>
  refine StepN.err_of ?_
  rw [w_pattern_reader_globPart]
  unfold pattern_reader_globPart
  refine Wp.mnew (Mem.one k0 hb) fun h1 Mx => ?_
  have M1 := Mx.swap
  have hs := next_r (n := n) (d := D + 1) M1.at0.1 M1.at0.2.1 hi hu
  rw [hc] at hs
  exact Wp.rdE hs M1 fun h' p k1 t1 => ⟨rfl, p, k1, t1⟩
 | some c =>
  obtain ⟨hp, _⟩ := at?_some hc
  have h256 := at?_256 hc
  dsimp only
  by_cases h42 : c = 42
  ·rw [if_pos h42]
   refine StepN.ok_of ?_
   rw [w_pattern_reader_globPart]
   unfold pattern_reader_globPart
   refine Wp.mnew (Mem.one k0 hb) fun h1 Mx => ?_
   have M1 := Mx.swap
   have hs := next_r (n := n) (d := D + 1) M1.at0.1 M1.at0.2.1 hi hu
   rw [hc] at hs
   refine Wp.rdK hs M1 fun h2 M2 => ?_
   have kt : NodeT anyN (nodeC 2 anyW .nsl) [] := NodeT.leaf 2 anyW_ok
   repeat (first | (with_reducible first | refine Wp.l ?_ | (apply Wp.o; first | exact avInt_int _ _ | exact avAgg_agg _)) | ((with_reducible refine Wp.ift ?_ ?_; apply beq_t); omega) | (with_reducible apply Wp.callN; exact anyByte_w (d := D + 1) hn) | rw [newP_eq])
   refine Wp.mnews M2 (kt.bld h2) kt.one hx fun h3 M3 => ?_
   obtain ⟨h4, e4, t4⟩ := over_r (n := n) (d := D + 2) (h := h3) (grow_one _ h2.next kt.len kt.one) 5
   refine Wp.callN e4 ?_
   have M4 := M3.keep t4
   refine Wp.o (avAgg_agg _) ?_
   have M5 : Mem [b] h h4 ((b, TRd, rdP u (i + 1)) :: (h.next, TNode, [.int .i64 0, .int .u64 0, .int .u64 0, .int .u64 0, .int .u64 0, .nsl]) :: ([(h2.next, TNode, nodeC 2 anyW .nsl)] ++ ([] ++ []))) := M4.perm (List.perm_append_comm (l₁ := [_, _]) (l₂ := [_]))
   exact fin_node M5 rfl (signed kt 5 h2.next)
  rw [if_neg h42]
  by_cases h63 : c = 63
  ·rw [if_pos h63]
   refine StepN.ok_of ?_
   rw [w_pattern_reader_globPart]
   unfold pattern_reader_globPart
   refine Wp.mnew (Mem.one k0 hb) fun h1 Mx => ?_
   have M1 := Mx.swap
   have hs := next_r (n := n) (d := D + 1) M1.at0.1 M1.at0.2.1 hi hu
   rw [hc] at hs
   refine Wp.rdK hs M1 fun h2 M2 => ?_
   repeat (first | (with_reducible first | refine Wp.l ?_ | (apply Wp.o; first | exact avInt_int _ _ | exact avAgg_agg _)) | ((with_reducible refine Wp.ift ?_ ?_; apply beq_t); omega) | ((with_reducible refine Wp.iff ?_ ?_; apply beq_f); omega) | (with_reducible apply Wp.callN; exact anyByte_w (d := D + 1) hn) | rw [newP_eq])
   exact fin_node M2 rfl (NodeT.leaf 2 anyW_ok)
  rw [if_neg h63]
  by_cases h92 : c = 92
  ·rw [if_pos h92]
   cases he : at? u (i + 1) with
   | none =>
    refine StepN.err_of ?_
    rw [w_pattern_reader_globPart]
    unfold pattern_reader_globPart
    refine Wp.mnew (Mem.one k0 hb) fun h1 Mx => ?_
    have M1 := Mx.swap
    have hs := next_r (n := n) (d := D + 1) M1.at0.1 M1.at0.2.1 hi hu
    rw [hc] at hs
    refine Wp.rdK hs M1 fun h2 M2 => ?_
    have hs2 := next_r (n := n) (d := D + 1) M2.at0.1 M2.at0.2.1 (by omega) hu
    rw [he] at hs2
    repeat (first | (with_reducible first | refine Wp.l ?_ | (apply Wp.o; exact avInt_int _ _)) | ((with_reducible refine Wp.ift ?_ ?_; apply beq_t); omega) | ((with_reducible refine Wp.iff ?_ ?_; apply beq_f); omega) | rw [newP_eq])
    exact Wp.rdE hs2 M2 fun h' p k1 t1 => ⟨rfl, p, k1, t1⟩
   | some e =>
    refine StepN.ok_of ?_
    rw [w_pattern_reader_globPart]
    unfold pattern_reader_globPart
    refine Wp.mnew (Mem.one k0 hb) fun h1 Mx => ?_
    have M1 := Mx.swap
    have hs := next_r (n := n) (d := D + 1) M1.at0.1 M1.at0.2.1 hi hu
    rw [hc] at hs
    refine Wp.rdK hs M1 fun h2 M2 => ?_
    have hs2 := next_r (n := n) (d := D + 1) M2.at0.1 M2.at0.2.1 (by omega) hu
    rw [he] at hs2
    repeat (first | (with_reducible first | refine Wp.l ?_ | (apply Wp.o; exact avInt_int _ _)) | ((with_reducible refine Wp.ift ?_ ?_; apply beq_t); omega) | ((with_reducible refine Wp.iff ?_ ?_; apply beq_f); omega) | rw [newP_eq])
    refine Wp.rdK hs2 M2 fun h3 M3 => ?_
    repeat (with_reducible first | (apply Wp.o; first | exact avInt_int _ _ | exact avAgg_agg _) | (apply Wp.callN; exact oneByte_w (d := D + 1) hn (at?_256 he)))
    exact fin_node M3 rfl (NodeT.leaf 2 (spanW_ok 1 zeroW_ok e))
  rw [if_neg h92]
  refine StepN.ok_of ?_
  rw [w_pattern_reader_globPart]
  unfold pattern_reader_globPart
  refine Wp.mnew (Mem.one k0 hb) fun h1 Mx => ?_
  have M1 := Mx.swap
  have hs := next_r (n := n) (d := D + 1) M1.at0.1 M1.at0.2.1 hi hu
  rw [hc] at hs
  refine Wp.rdK hs M1 fun h2 M2 => ?_
  repeat (first | (with_reducible first | refine Wp.l ?_ | (apply Wp.o; first | exact avInt_int _ _ | exact avAgg_agg _)) | ((with_reducible refine Wp.iff ?_ ?_; apply beq_f); omega) | (with_reducible apply Wp.callN; exact oneByte_w (d := D + 1) hn h256) | rw [newP_eq])
  exact fin_node M2 rfl (NodeT.leaf 2 (spanW_ok 1 zeroW_ok c))
theorem flat_loop {fid : Nat} {F : Nat → Res} (hu : u.length ≤ 1000000) (hF : PartF u fid F) (hdyn : ∀ (call : CallF) (b : Nat) (h : AHeap), dynC Try.prog call (AV.fn fid [.ptr b 0] []) [] h = call fid [.ptr b 0] h) : ∀ (k i : Nat) (l : List Nd), i ≤ u.length → u.length - i < k → l.length ≤ i → ∃ r, FlatP F u l i r ∧ Bnd u i r ∧
   ∀ {n D f b r0 : Nat} {S : List Nat} {h0 H : AHeap} {kc : List (List AV)} {kv : AV} {T0 T1 : List RowT} {z : List AV} {k7 : AV → AHeap → R} {Q : ARes → AHeap → Prop}, 4 ≤ D → 300 < n → u.length - i < f → GrowT TNode 6 kc kv T0 → KidsT l kc T1 → memB TNode h0.ex = false →
    Mem S h0 H ((b, TRd, rdP u i) :: (r0, TNode, z) :: (T0 ++ T1)) →
    (∀ l' j kc kv T0 T1 H', r = .ok (joinN 3 l', j) → GrowT TNode 6 kc kv T0 → KidsT l' kc T1 → Mem S h0 H' ((b, TRd, rdP u j) :: (r0, TNode, z) :: (T0 ++ T1)) → Wp (k7 kv H') Q) →
    (∀ e p H', r = .error e → Rd H' b u p → Tch S h0 H' → Q (.panic (PanA 6 e)) H') →
    Wp (pattern_reader_row_L0 (world n D) (.ptr b 0) (AV.fn fid [.ptr b 0] []) k7 f kv H) Q
 | 0, _, _, _, hk, _ => by omega
 | k + 1, i, l, hi, hk, hli => by
  by_cases hst : u.length ≤ i
  ·refine ⟨_, .stop hst, ⟨Nat.le_refl _, hi⟩, ?_⟩
   intro n D f b r0 S h0 H kc kv T0 T1 z k7 Q hD hn hf g ks hex M hok hbad
   obtain ⟨D, rfl⟩ : ∃ D', D = D' + 4 := ⟨D - 4, by omega⟩
   cases f with
   | zero => omega
   | succ f =>
    have he := ended_r (n := n) (d := D + 3) M.at0.1
    have hfin := hok l i kc kv T0 T1 H rfl g ks M
    rw [pattern_reader_row_L0_s]
    unfold pattern_reader_row_L0b
    rw [decide_eq_true (by omega)] at he
    repeat (with_reducible first | refine Wp.l ?_ | (apply Wp.o; exact avBool_bool _) | (refine Wp.iff ?_ ?_; exact Bool.not_true) | (apply Wp.callN; assumption))
    exact hfin
  ·have hb1 := hF.1 i hi
   cases hr : F i with
   | error e =>
    rw [hr] at hb1
    refine ⟨_, .bad (by omega) hr, hb1, ?_⟩
    intro n D f b r0 S h0 H kc kv T0 T1 z k7 Q hD hn hf g ks hex M hok hbad
    obtain ⟨D, rfl⟩ : ∃ D', D = D' + 4 := ⟨D - 4, by omega⟩
    cases f with
    | zero => omega
    | succ f =>
     have he := ended_r (n := n) (d := D + 3) M.at0.1
     rw [decide_eq_false (by omega)] at he
     have hs := hF.2 (n := n) (D := D + 4) (by omega) hn hi M.at0.1 M.at0.2.1 (by rw [M.ex]; exact hex)
     rw [hr] at hs
     rw [pattern_reader_row_L0_s]
     unfold pattern_reader_row_L0b
     repeat (first | (with_reducible first | refine Wp.l ?_ | (apply Wp.o; exact avBool_bool _) | (refine Wp.ift ?_ ?_; exact Bool.not_false)) | ((with_reducible first | apply Wp.callN | apply Wp.callK); (with_reducible assumption)))
     rw [hdyn]
     exact Wp.nodeE hs M fun h' p k1 t1 => hbad e p h' rfl k1 t1
   | ok tj =>
    obtain ⟨t, j⟩ := tj
    rw [hr] at hb1
    obtain ⟨b1, b2⟩ := hb1
    obtain ⟨r, q1, q2, q3⟩ := flat_loop hu hF hdyn k j (l ++ [t]) b2 (by omega) (by simp; omega)
    refine ⟨r, .more (by omega) hr q1, ?_, ?_⟩
    ·cases r with
     | error e => exact q2
     | ok tj2 =>
      obtain ⟨a1, a2⟩ := q2
      exact ⟨by omega, a2⟩
    ·intro n D f b r0 S h0 H kc kv T0 T1 z k7 Q hD hn hf g ks hex M hok hbad
     obtain ⟨D, rfl⟩ : ∃ D', D = D' + 4 := ⟨D - 4, by omega⟩
     cases f with
     | zero => omega
     | succ f =>
      have he := ended_r (n := n) (d := D + 3) M.at0.1
      rw [decide_eq_false (by omega)] at he
      have hs := hF.2 (n := n) (D := D + 4) (by omega) hn hi M.at0.1 M.at0.2.1 (by rw [M.ex]; exact hex)
      rw [hr] at hs
      rw [pattern_reader_row_L0_s]
      unfold pattern_reader_row_L0b
      repeat (first | (with_reducible first | refine Wp.l ?_ | (apply Wp.o; exact avBool_bool _) | (refine Wp.ift ?_ ?_; exact Bool.not_false)) | ((with_reducible first | apply Wp.callN | apply Wp.callK); (with_reducible assumption)))
      rw [hdyn]
      refine Wp.nodeK hs M fun c T h2 kt M3 => ?_
      (((with_reducible apply Wp.o); (with_reducible exact avAgg_agg _)))
      refine Wp.nodeGrow M3 g ks kt hex (by omega) fun kv' h' T0' g' ks' M4 => ?_
      exact q3 hD hn (by omega) g' ks' hex M4 hok hbad
theorem flat_ok {fid : Nat} {F : Nat → Res} (hu : u.length ≤ 1000000) (hF : PartF u fid F) (hdyn : ∀ (call : CallF) (b : Nat) (h : AHeap), dynC Try.prog call (AV.fn fid [.ptr b 0] []) [] h = call fid [.ptr b 0] h) : ∃ r, FlatP F u [] 0 r ∧ Bnd u 0 r ∧
  ∀ {n D b : Nat} {h : AHeap}, 5 ≤ D → 300 < n → u.length < n → Rd h b u 0 → b < h.next → memB TNode h.ex = false → StepN b u h (world n D 59 [.ptr b 0, AV.fn fid [.ptr b 0] []] h) r := by
 obtain ⟨r, r1, r2, r3⟩ := flat_loop hu hF hdyn (u.length + 1) 0 [] (Nat.zero_le _) (by omega) (Nat.le_refl _)
 refine ⟨r, r1, r2, ?_⟩
 intro n D b h hD hn hn2 k0 hb hx
 obtain ⟨D, rfl⟩ : ∃ D', D = D' + 5 := ⟨D - 5, by omega⟩
 refine StepN.of_main fun Q q1 q2 => ?_
 rw [w_pattern_reader_row]
 unfold pattern_reader_row
 refine Wp.mnew (Mem.one k0 hb) fun h1 Mx => ?_
 rw [newP_eq]
 have M1 := Mx.swap
 ((with_reducible refine Wp.join1 (fun _ _ => ?_)))
 rename_i k7 ek7
 refine r3 (r0 := h.next) (by omega) hn (by omega) (GrowT.nil _ _) .nil hx M1 ?_ q2
 intro l' j kc kv T0 T1 H' hr g ks M2
 refine Wp.go1 ek7 ?_
 obtain ⟨c, T, h2, e2, kt, M3⟩ := inRow_r (n := n) (d := D + 2) (xs := [_, _]) M2 g ks
 repeat (with_reducible first | (apply Wp.o; exact avAgg_agg _) | (apply Wp.callN; assumption))
 refine (fin_node M3 rfl kt).mono ?_
 rintro _ h3 ⟨c3, T3, rfl, kt3, M4⟩
 exact q1 _ _ _ _ _ hr kt3 M4
end
def dropJ : Res → Except Nat Nd
 | .ok (t, _) => .ok t
 | .error q => .error q
inductive TreeP (u : Bytes) : Int → Except Nat Nd → Prop
 | lit {r : Res} (h : FlatP (partL u) u [] 0 r) : TreeP u 1 (dropJ r)
 | glob {r : Res} (h : FlatP (partG u) u [] 0 r) : TreeP u 2 (dropJ r)
 | re_bad {q : Nat} (h : AltP u [] 0 (.error q)) : TreeP u 3 (.error q)
 | re_end {t : Nd} {j : Nat} (h : AltP u [] 0 (.ok (t, j))) (n : j ≠ u.length) : TreeP u 3 (.error j)
 | re {t : Nd} (h : AltP u [] 0 (.ok (t, u.length))) : TreeP u 3 (.ok t)
def StepT (b : Nat) (u : Bytes) (h : AHeap) (x : R) : Except Nat Nd → Prop
 | .ok t => ∃ c T h' p, x = some (.ret (.agg c), h') ∧ NodeT t c T ∧ Mem [b] h h' ((b, TRd, rdP u p) :: T)
 | .error q => ∃ h' p, x = some (.panic (PanA 6 q), h') ∧ Rd h' b u p ∧ Tch [b] h h'
section
variable {n d b p q i m : Nat} {h h0 : AHeap} {u : Bytes} {Q : ARes → AHeap → Prop} {S : List Nat} {xs rs T T0 T1 : List RowT} {w : List Nat} {x : R} {t : Nd} {c : List AV} {v kv : AV} {l : List Nd} {kc : List (List AV)}
theorem StepT.ok_of (kk : Wp x fun r h' => ∃ c T p, r = .ret (.agg c) ∧ NodeT t c T ∧ Mem [b] h h' ((b, TRd, rdP u p) :: T)) : StepT b u h x (.ok t) := by
 obtain ⟨_, h', e, c, T, p, rfl, k1, k2⟩ := kk
 exact ⟨c, T, h', p, e, k1, k2⟩
theorem StepT.err_of (kk : Wp x fun r h' => r = .panic (PanA 6 q) ∧ ∃ p, Rd h' b u p ∧ Tch [b] h h') : StepT b u h x (.error q) := by
 obtain ⟨_, h', e, rfl, p, k1, k2⟩ := kk
 exact ⟨h', p, e, k1, k2⟩
theorem end_r (k : Rd h b u p) (hp : p = u.length) : world n (d + 2) 62 [.ptr b 0] h = some (.ret (.tup []), h) := by
 have he := ended_r (n := n) (d := d) k
 rw [decide_eq_true hp] at he
 apply Wp.eq
 rw [w_pattern_reader_end]
 unfold pattern_reader_end
 repeat (with_reducible first | refine Wp.join0 (fun _ _ => ?_) | refine Wp.l ?_ | (apply Wp.o; exact avBool_bool _) | (refine Wp.iff ?_ ?_; exact Bool.not_true) | (apply Wp.callN; assumption) | refine Wp.go0 (by assumption) ?_)
 exact Wp.ret ⟨rfl, rfl⟩
theorem end_bad (k : Rd h b u p) (hp : p ≠ u.length) : world n (d + 2) 62 [.ptr b 0] h = some (.panic (PanA 6 p), h) := by
 have he := ended_r (n := n) (d := d) k
 rw [decide_eq_false hp] at he
 apply Wp.eq
 rw [w_pattern_reader_end]
 unfold pattern_reader_end
 have hr := refuse_r (n := n) (d := d) (h := h) 6 p
 have k0 : RowH h b 70 [strA u, .int .i64 (p : Int)] := k
 clear k
 repeat (first | (with_reducible first | refine Wp.join0 (fun _ _ => ?_) | refine Wp.l ?_) | ((with_reducible apply Wp.o); first | (with_reducible first | exact avInt_int _ _ | exact avBool_bool _ | exact nilC_ptr _ _ | exact fldP_ptr _ _ _) | ((with_reducible apply RowH.cell'); (with_reducible assumption); rfl)) | (with_reducible refine Wp.ift ?_ ?_; exact Bool.not_false) | ((with_reducible first | apply Wp.callN | apply Wp.callK); (with_reducible assumption)))
 exact Wp.callP hr ⟨rfl, rfl⟩
theorem tree_r (hu : u.length ≤ 1000000) (kind : Int) (hk : kind = 1 ∨ kind = 2 ∨ kind = 3) : ∃ r, TreeP u kind r ∧ (∀ q, r = .error q → q ≤ u.length) ∧
  ∀ {n D b : Nat} {h : AHeap}, 4 * u.length + 12 ≤ D → 300 < n → u.length + 5 < n → Rd h b u 0 → b < h.next → memB TNode h.ex = false → StepT b u h (world n D 40 [.ptr b 0, .int .i64 kind] h) r := by
 rcases hk with rfl | rfl | rfl
 ·obtain ⟨r, r1, r2, r3⟩ := flat_ok hu (partL_f hu) dynL
  refine ⟨_, .lit r1, ?_, ?_⟩
  ·intro q hh
   cases r with
   | error e =>
    cases hh
    exact r2
   | ok tj => cases hh
  ·intro n D b h hD hn hn2 k0 hb hx
   obtain ⟨D, rfl⟩ : ∃ D', D = D' + 6 := ⟨D - 6, by omega⟩
   cases r with
   | error e =>
    refine StepT.err_of ?_
    rw [w_pattern_reader_tree]
    unfold pattern_reader_tree
    refine Wp.mnew (Mem.one k0 hb) fun h1 Mx => ?_
    have M1 := Mx.swap
    have hs := r3 (n := n) (D := D + 5) (by omega) hn (by omega) M1.at0.1 M1.at0.2.1 (by rw [M1.ex]; exact hx)
    repeat (first | (with_reducible refine Wp.l ?_) | ((with_reducible refine Wp.iff ?_ ?_; apply beq_f); omega) | rw [newP_eq])
    exact Wp.nodeE hs M1 fun h' p k1 t1 => ⟨rfl, p, k1, t1⟩
   | ok tj =>
    obtain ⟨t, j⟩ := tj
    refine StepT.ok_of ?_
    rw [w_pattern_reader_tree]
    unfold pattern_reader_tree
    refine Wp.mnew (Mem.one k0 hb) fun h1 Mx => ?_
    have M1 := Mx.swap
    have hs := r3 (n := n) (D := D + 5) (by omega) hn (by omega) M1.at0.1 M1.at0.2.1 (by rw [M1.ex]; exact hx)
    repeat (first | (with_reducible refine Wp.l ?_) | ((with_reducible refine Wp.iff ?_ ?_; apply beq_f); omega) | rw [newP_eq])
    refine Wp.nodeK hs M1 fun c T h2 kt M3 => ?_
    (((with_reducible apply Wp.o); (with_reducible exact avAgg_agg _)))
    refine (fin_node M3 rfl kt).mono ?_
    rintro _ h3 ⟨c3, T3, rfl, kt3, M4⟩
    exact ⟨c3, T3, j, rfl, kt3, M4⟩
 ·obtain ⟨r, r1, r2, r3⟩ := flat_ok hu (partG_f hu) dynG
  refine ⟨_, .glob r1, ?_, ?_⟩
  ·intro q hh
   cases r with
   | error e =>
    cases hh
    exact r2
   | ok tj => cases hh
  ·intro n D b h hD hn hn2 k0 hb hx
   obtain ⟨D, rfl⟩ : ∃ D', D = D' + 6 := ⟨D - 6, by omega⟩
   cases r with
   | error e =>
    refine StepT.err_of ?_
    rw [w_pattern_reader_tree]
    unfold pattern_reader_tree
    refine Wp.mnew (Mem.one k0 hb) fun h1 Mx => ?_
    have M1 := Mx.swap
    have hs := r3 (n := n) (D := D + 5) (by omega) hn (by omega) M1.at0.1 M1.at0.2.1 (by rw [M1.ex]; exact hx)
    repeat (first | (with_reducible refine Wp.l ?_) | ((with_reducible refine Wp.ift ?_ ?_; apply beq_t); omega) | rw [newP_eq])
    exact Wp.nodeE hs M1 fun h' p k1 t1 => ⟨rfl, p, k1, t1⟩
   | ok tj =>
    obtain ⟨t, j⟩ := tj
    refine StepT.ok_of ?_
    rw [w_pattern_reader_tree]
    unfold pattern_reader_tree
    refine Wp.mnew (Mem.one k0 hb) fun h1 Mx => ?_
    have M1 := Mx.swap
    have hs := r3 (n := n) (D := D + 5) (by omega) hn (by omega) M1.at0.1 M1.at0.2.1 (by rw [M1.ex]; exact hx)
    repeat (first | (with_reducible refine Wp.l ?_) | ((with_reducible refine Wp.ift ?_ ?_; apply beq_t); omega) | rw [newP_eq])
    refine Wp.nodeK hs M1 fun c T h2 kt M3 => ?_
    (((with_reducible apply Wp.o); (with_reducible exact avAgg_agg _)))
    refine (fin_node M3 rfl kt).mono ?_
    rintro _ h3 ⟨c3, T3, rfl, kt3, M4⟩
    exact ⟨c3, T3, j, rfl, kt3, M4⟩
 ·obtain ⟨r, r1, r2, r3⟩ := alts_ok hu u.length 0 (Nat.zero_le _) (by omega)
  cases r with
  | error e =>
   refine ⟨_, .re_bad r1, fun q hh => by cases hh; exact r2, ?_⟩
   intro n D b h hD hn hn2 k0 hb hx
   obtain ⟨D, rfl⟩ : ∃ D', D = D' + 6 := ⟨D - 6, by omega⟩
   refine StepT.err_of ?_
   rw [w_pattern_reader_tree]
   unfold pattern_reader_tree
   refine Wp.mnew (Mem.one k0 hb) fun h1 Mx => ?_
   have M1 := Mx.swap
   have hs := r3 (n := n) (D := D + 5) (by omega) hn hn2 M1.at0.1 M1.at0.2.1 (by rw [M1.ex]; exact hx)
   repeat (first | (with_reducible refine Wp.l ?_) | ((with_reducible refine Wp.ift ?_ ?_; apply beq_t); omega) | ((with_reducible refine Wp.iff ?_ ?_; apply beq_f); omega) | rw [newP_eq])
   exact Wp.nodeE hs M1 fun h' p k1 t1 => ⟨rfl, p, k1, t1⟩
  | ok tj =>
   obtain ⟨t, j⟩ := tj
   by_cases hj : j = u.length
   ·subst hj
    refine ⟨_, .re r1, fun q hh => (by cases hh), ?_⟩
    intro n D b h hD hn hn2 k0 hb hx
    obtain ⟨D, rfl⟩ : ∃ D', D = D' + 6 := ⟨D - 6, by omega⟩
    refine StepT.ok_of ?_
    rw [w_pattern_reader_tree]
    unfold pattern_reader_tree
    refine Wp.mnew (Mem.one k0 hb) fun h1 Mx => ?_
    have M1 := Mx.swap
    have hs := r3 (n := n) (D := D + 5) (by omega) hn hn2 M1.at0.1 M1.at0.2.1 (by rw [M1.ex]; exact hx)
    repeat (first | (with_reducible refine Wp.l ?_) | ((with_reducible refine Wp.ift ?_ ?_; apply beq_t); omega) | ((with_reducible refine Wp.iff ?_ ?_; apply beq_f); omega) | rw [newP_eq])
    refine Wp.nodeK hs M1 fun c T h2 kt M3 => ?_
    (((with_reducible apply Wp.o); (with_reducible exact avAgg_agg _)))
    refine Wp.mnew M3 fun h3 M4 => ?_
    rw [newP_eq]
    refine Wp.sa0 M4 kt.len rfl kt.one fun h4 M5 => ?_
    have he := end_r (n := n) (d := D + 3) M5.at1.1 rfl
    refine Wp.callK he ?_
    refine Wp.lr0 M5 kt.len ?_
    refine (fin_node (mem_mid (xs := [_]) (T0 := [_]) M5.swap) rfl kt).mono ?_
    rintro _ h3 ⟨c3, T3, rfl, kt3, M6⟩
    exact ⟨c3, T3, _, rfl, kt3, M6⟩
   ·refine ⟨_, .re_end r1 hj, fun q hh => by cases hh; exact r2.2, ?_⟩
    intro n D b h hD hn hn2 k0 hb hx
    obtain ⟨D, rfl⟩ : ∃ D', D = D' + 6 := ⟨D - 6, by omega⟩
    refine StepT.err_of ?_
    rw [w_pattern_reader_tree]
    unfold pattern_reader_tree
    refine Wp.mnew (Mem.one k0 hb) fun h1 Mx => ?_
    have M1 := Mx.swap
    have hs := r3 (n := n) (D := D + 5) (by omega) hn hn2 M1.at0.1 M1.at0.2.1 (by rw [M1.ex]; exact hx)
    repeat (first | (with_reducible refine Wp.l ?_) | ((with_reducible refine Wp.ift ?_ ?_; apply beq_t); omega) | ((with_reducible refine Wp.iff ?_ ?_; apply beq_f); omega) | rw [newP_eq])
    refine Wp.nodeK hs M1 fun c T h2 kt M3 => ?_
    (((with_reducible apply Wp.o); (with_reducible exact avAgg_agg _)))
    refine Wp.mnew M3 fun h3 M4 => ?_
    rw [newP_eq]
    refine Wp.sa0 M4 kt.len rfl kt.one fun h4 M5 => ?_
    have he := end_bad (n := n) (d := D + 3) M5.at1.1 hj
    exact Wp.callP he ⟨rfl, _, M5.at1.1, M5.tch⟩
end
theorem dynT (call : CallF) (a b c : Nat) (h : AHeap) : dynC Try.prog call (AV.fn 39 [] [.ptr a 0, .ptr b 0, .ptr c 0]) [] h = call 39 [.ptr a 0, .ptr b 0, .ptr c 0] h := by
 have e : callV Try.prog h [] (some (AV.fn 39 [] [.ptr a 0, .ptr b 0, .ptr c 0])) = some (.call 39 [.ptr a 0, .ptr b 0, .ptr c 0], h) := by kernel_rfl
 unfold dynC
 rw [e]
section
variable {n D d b p q i m : Nat} {h h0 : AHeap} {u : Bytes} {Q : ARes → AHeap → Prop} {S : List Nat} {xs rs rs' T T0 T1 : List RowT} {w : List Nat} {x : R} {t : Nd} {c : List AV} {v kv fv : AV} {l : List Nd} {kc : List (List AV)}
theorem guard_fine (Mx : Mem S h0 h rs) (hq : ∀ h1, Mem S h0 h1 ((h.next, TSpot, [.int .i64 0, .int .i64 0]) :: rs) → ∃ h2, dynC Try.prog (world n D) fv [] h1 = some (.ret (.tup []), h2) ∧ Mem S h0 h2 ((h.next, TSpot, [.int .i64 0, .int .i64 0]) :: rs')) : ∃ h', world n (D + 1) 35 [fv] h = some (.ret (.agg [.int .i64 0, .int .i64 0]), h') ∧ Mem S h0 h' rs' := by
 apply Wp.ex
 rw [w_pattern_guard]
 unfold pattern_guard
 refine Wp.mnew Mx fun h1 M1 => ?_
 obtain ⟨h2, e2, M2⟩ := hq h1 M1
 refine callKd_eq_ret e2 ?_
 clear Mx M1
 have Mx := M2
 clear M2
 rw [newP_eq]
 repeat (first | ((with_reducible apply Wp.lr0 Mx); rfl) | ((with_reducible apply Wp.sa0 Mx); rfl; rfl; (rfl); clear Mx; intro _ Mx) | (with_reducible apply Wp.callN; exact recov_nil))
 exact Wp.ret ⟨rfl, Mx.pop⟩
noncomputable abbrev rowsT (pc rd sp nd pt p : Nat) (u : Bytes) (kind : Int) (c : List AV) : List RowT := [(pc, TPtr, [.ptr rd 0]), (rd, TRd, rdP u p), (sp, TSpot, [.int .i64 0, .int .i64 0]), (nd, TNode, c), (pt, 35, [.int .i64 kind, strA u])]
theorem t1_ok {pc rd sp nd pt : Nat} {kind : Int} {z : List AV} (hz : z.length = 6) (hs : ∀ (h : AHeap), Rd h rd u 0 → rd < h.next → memB TNode h.ex = false → StepT rd u h (world n D 40 [.ptr rd 0, .int .i64 kind] h) (.ok t)) (M : Mem S h0 h (rowsT pc rd sp nd pt 0 u kind z ++ xs)) (hx : memB TNode h0.ex = false) :
  ∃ c T h' p, world n (D + 1) 39 [.ptr pc 0, .ptr pt 0, .ptr nd 0] h = some (.ret (.tup []), h') ∧ NodeT t c T ∧ Mem S h0 h' (rowsT pc rd sp nd pt p u kind c ++ (xs ++ T)) := by
 have Mx : Mem S h0 h ((pc, TPtr, [.ptr rd 0]) :: (rd, TRd, rdP u 0) :: (sp, TSpot, [.int .i64 0, .int .i64 0]) :: (nd, TNode, z) :: (pt, 35, [.int .i64 kind, strA u]) :: xs) := M
 obtain ⟨c, T, h1, p, e1, kt, M1⟩ := hs h Mx.at1.1 Mx.at1.2.1 (by rw [Mx.ex]; exact hx)
 have M2 : Mem S h0 h1 ((rd, TRd, rdP u p) :: (pc, TPtr, [.ptr rd 0]) :: (sp, TSpot, [.int .i64 0, .int .i64 0]) :: (nd, TNode, z) :: (pt, 35, [.int .i64 kind, strA u]) :: (xs ++ T)) := Mem.frameT (xs := [_]) (ys := [_]) Mx.swap M1
 suffices hK : Wp (world n (D + 1) 39 [.ptr pc 0, .ptr pt 0, .ptr nd 0] h) fun r h' => r = .ret (.tup []) ∧ Mem S h0 h' (rowsT pc rd sp nd pt p u kind c ++ (xs ++ T)) by
  obtain ⟨_, h', e, rfl, M'⟩ := hK
  exact ⟨c, T, h', p, e, kt, M'⟩
 rw [w_pattern_Tree_1]
 unfold pattern_Tree_1
 repeat (first | (with_reducible apply Wp.o; first | exact avInt_int _ _ | exact fldP_ptr _ _ _) | ((with_reducible apply Wp.ld0 Mx); rfl) | ((with_reducible apply Wp.ld4 Mx); rfl) | (with_reducible first | (apply Wp.o; exact avAgg_agg _) | (apply Wp.callK; assumption)))
 refine Wp.sa3 M2 kt.len hz kt.one fun h2 M3 => ?_
 exact Wp.ret ⟨rfl, M3.swap⟩
theorem t1_bad {pc rd sp nd pt : Nat} {kind : Int} {z : List AV} (hs : ∀ (h : AHeap), Rd h rd u 0 → rd < h.next → memB TNode h.ex = false → StepT rd u h (world n D 40 [.ptr rd 0, .int .i64 kind] h) (.error q)) (M : Mem S h0 h (rowsT pc rd sp nd pt 0 u kind z ++ xs)) (hx : memB TNode h0.ex = false) :
  ∃ h' p, world n (D + 1) 39 [.ptr pc 0, .ptr pt 0, .ptr nd 0] h = some (.panic (PanA 6 q), h') ∧ Mem S h0 h' (rowsT pc rd sp nd pt p u kind z ++ xs) := by
 have Mx : Mem S h0 h ((pc, TPtr, [.ptr rd 0]) :: (rd, TRd, rdP u 0) :: (sp, TSpot, [.int .i64 0, .int .i64 0]) :: (nd, TNode, z) :: (pt, 35, [.int .i64 kind, strA u]) :: xs) := M
 obtain ⟨h1, p, e1, k1, t1⟩ := hs h Mx.at1.1 Mx.at1.2.1 (by rw [Mx.ex]; exact hx)
 suffices hK : Wp (world n (D + 1) 39 [.ptr pc 0, .ptr pt 0, .ptr nd 0] h) fun r h' => r = .panic (PanA 6 q) ∧ Mem S h0 h' (rowsT pc rd sp nd pt p u kind z ++ xs) by
  obtain ⟨_, h', e, rfl, M'⟩ := hK
  exact ⟨h', p, e, M'⟩
 rw [w_pattern_Tree_1]
 unfold pattern_Tree_1
 repeat (first | (with_reducible apply Wp.o; first | exact avInt_int _ _ | exact fldP_ptr _ _ _) | ((with_reducible apply Wp.ld0 Mx); rfl) | ((with_reducible apply Wp.ld4 Mx); rfl))
 exact Wp.callP e1 ⟨rfl, Mem.upd (xs := [_]) Mx t1 k1⟩
theorem loL_last : ∀ (l : List AV) (x : AV) (N : Nat), AV.loL N (l ++ [x]) = true → AV.lo N x = true
 | [], x, N, h => by
  have : (AV.lo N x && AV.loL N []) = true := h
  simpa [AV.loL] using this
 | y :: l, x, N, h => by
  have : (AV.lo N y && AV.loL N (l ++ [x])) = true := h
  rw [Bool.and_eq_true] at this
  exact loL_last l x N this.2
theorem NodeT.low {N : Nat} (k : NodeT t c T) (hn : ∀ y ∈ T, N ≤ y.1) (hl : AV.loL N c = true) : T = [] := by
 cases k with
 | mk hw g ks =>
  rename_i op w kids kc kv T0 T1
  have h2 := loL_last (.int .i64 (op : Int) :: wordsA w) kv N hl
  rcases g.2 with ⟨rfl, rfl, rfl⟩ | ⟨_, q, rfl, rfl⟩
  ·cases ks
   rfl
  ·have h3 := hn (q, TNode, kc.flatten) (by simp)
   have h4 : q < N := Nat.le_of_ble_eq_true h2
   exact absurd h3 (by show ¬ N ≤ q; omega)
end
section
variable {n D d b p q i m : Nat} {h h0 : AHeap} {u : Bytes} {Q : ARes → AHeap → Prop} {S : List Nat} {xs rs rs' T T0 T1 : List RowT} {w : List Nat} {x : R} {t : Nd} {c : List AV} {v kv fv : AV} {l : List Nd} {kc : List (List AV)}
theorem tree_guard_bad {pc rd sp nd pt : Nat} {kind : Int} {z : List AV} (hs : ∀ (h : AHeap), Rd h rd u 0 → rd < h.next → memB TNode h.ex = false → StepT rd u h (world n D 40 [.ptr rd 0, .int .i64 kind] h) (.error q)) (M : Mem S h0 h (rowsT pc rd sp nd pt 0 u kind z ++ xs)) (hx : memB TNode h0.ex = false) :
  ∃ h', world n (D + 2) 35 [AV.fn 39 [] [.ptr pc 0, .ptr pt 0, .ptr nd 0]] h = some (.ret (.agg [.int .i64 6, .int .i64 (q : Int)]), h') ∧ ∃ p, Mem S h0 h' (rowsT pc rd sp nd pt p u kind z ++ xs) := by
 apply Wp.ex
 rw [w_pattern_guard]
 unfold pattern_guard
 refine Wp.mnew M fun h1 M1 => ?_
 obtain ⟨h2, p, e2, M2⟩ := t1_bad (n := n) (D := D) (xs := xs ++ [(h.next, TSpot, [.int .i64 0, .int .i64 0])]) hs (M1.perm (by
  rw [← List.append_assoc]
  exact List.perm_append_comm (l₁ := rowsT pc rd sp nd pt 0 u kind z ++ xs) (l₂ := [_]))) hx
 have M3 : Mem S h0 h2 ((h.next, TSpot, [.int .i64 0, .int .i64 0]) :: (rowsT pc rd sp nd pt p u kind z ++ xs)) := M2.perm (by
  rw [← List.append_assoc]
  exact List.perm_append_comm (l₁ := [_]) (l₂ := rowsT pc rd sp nd pt p u kind z ++ xs))
 refine callKd_eq_pan ((dynT _ _ _ _ _).trans e2) ?_
 rw [newP_eq]
 obtain ⟨h3, e3, M4⟩ := recov_pan (n := n) (call := world n (D + 1)) rfl M3 6 q
 refine Wp.callN e3 ?_
 refine Wp.lr0 M4 rfl ?_
 exact Wp.ret ⟨rfl, p, M4.pop⟩
theorem tree_guard_ok {pc rd sp nd pt : Nat} {kind : Int} {z : List AV} (hz : z.length = 6) (hs : ∀ (h : AHeap), Rd h rd u 0 → rd < h.next → memB TNode h.ex = false → StepT rd u h (world n D 40 [.ptr rd 0, .int .i64 kind] h) (.ok t)) (M : Mem S h0 h (rowsT pc rd sp nd pt 0 u kind z ++ xs)) (hx : memB TNode h0.ex = false) :
  ∃ c T h' p, world n (D + 2) 35 [AV.fn 39 [] [.ptr pc 0, .ptr pt 0, .ptr nd 0]] h = some (.ret (.agg [.int .i64 0, .int .i64 0]), h') ∧ NodeT t c T ∧ Mem S h0 h' (rowsT pc rd sp nd pt p u kind c ++ (xs ++ T)) := by
 suffices hK : Wp (world n (D + 2) 35 [AV.fn 39 [] [.ptr pc 0, .ptr pt 0, .ptr nd 0]] h) fun r h' => ∃ c T p, r = .ret (.agg [.int .i64 0, .int .i64 0]) ∧ NodeT t c T ∧ Mem S h0 h' (rowsT pc rd sp nd pt p u kind c ++ (xs ++ T)) by
  obtain ⟨_, h', e, c, T, p, rfl, k1, k2⟩ := hK
  exact ⟨c, T, h', p, e, k1, k2⟩
 rw [w_pattern_guard]
 unfold pattern_guard
 refine Wp.mnew M fun h1 M1 => ?_
 obtain ⟨c, T, h2, p, e2, kt, M2⟩ := t1_ok (n := n) (D := D) (xs := [(h.next, TSpot, [.int .i64 0, .int .i64 0])] ++ xs) hz hs (M1.perm (List.perm_append_comm_assoc (rowsT pc rd sp nd pt 0 u kind z) [_] xs)) hx
 have M3 : Mem S h0 h2 ((h.next, TSpot, [.int .i64 0, .int .i64 0]) :: (rowsT pc rd sp nd pt p u kind c ++ (xs ++ T))) := M2.perm (by
  rw [List.append_assoc]
  exact List.perm_append_comm_assoc [_] (rowsT pc rd sp nd pt p u kind c) (xs ++ T))
 refine callKd_eq_ret ((dynT _ _ _ _ _).trans e2) ?_
 clear M1 M2
 have Mx := M3
 clear M3
 rw [newP_eq]
 repeat (first | ((with_reducible apply Wp.lr0 Mx); rfl) | ((with_reducible apply Wp.sa0 Mx); rfl; rfl; (rfl); clear Mx; intro _ Mx) | (with_reducible apply Wp.callN; exact recov_nil))
 exact Wp.ret ⟨c, T, p, rfl, kt, Mx.pop⟩
theorem tree_kinds (hu : u.length ≤ 1000000) {kind : Int} (hk : kind = 1 ∨ kind = 2 ∨ kind = 3) : (64 < u.length → ∀ {n D : Nat} {h : AHeap}, 0 ≤ D → 300 < n → memB TNode h.ex = false → world n (D + 1) 21 [.agg [.int .i64 kind, strA u]] h = some (.ret (.tup [.agg (nodeC 0 zeroW .nsl), .agg [.int .i64 3, .int .i64 64]]), h)) ∧
  (u.length ≤ 64 → ∃ r, TreeP u kind r ∧ (∀ q, r = .error q → q ≤ u.length) ∧ ∀ {n D : Nat} {h : AHeap}, 300 ≤ D → 400 < n → memB TNode h.ex = false → match r with
   | .error q => world n (D + 3) 21 [.agg [.int .i64 kind, strA u]] h = some (.ret (.tup [.agg (nodeC 0 zeroW .nsl), .agg [.int .i64 6, .int .i64 (q : Int)]]), h)
   | .ok t => ∃ c T h', world n (D + 3) 21 [.agg [.int .i64 kind, strA u]] h = some (.ret (.tup [.agg c, .agg [.int .i64 0, .int .i64 0]]), h') ∧ NodeT t c T ∧ Mem [] h h' T) := by
 have hk' := hk
 rcases hk' with rfl | rfl | rfl
 ·-- kind 1
  refine ⟨?_, ?_⟩
  ·intro l n D h hD hn hx
   apply Wp.eq
   rw [w_pattern_Tree]
   refine Wp.gc ?_
   suffices hK : Wp (pattern_Tree (world n D) n [.int .i64 1, strA u] h) fun r h' => r = .ret (.tup [.agg (nodeC 0 zeroW .nsl), .agg [.int .i64 3, .int .i64 64]]) ∧ Tch [] h h' from hK.mono fun r h' ⟨e, t⟩ => ⟨t.above, by rw [e]; rfl, e, rfl⟩
   unfold pattern_Tree
   have ll := lenS_nat u
   have Mx := Mem.nil [] h
   repeat (first | (with_reducible apply Wp.o; first | exact avInt_int _ _ | exact avStr_str _ | exact fldP_ptr _ _ _) | ((with_reducible apply Wp.lr0 Mx); rfl) | ((with_reducible apply Wp.sa0 Mx); rfl; rfl; (rfl); clear Mx; intro _ Mx) | ((with_reducible apply Wp.lr1 Mx); rfl) | ((with_reducible apply Wp.sa1 Mx); rfl; rfl; (rfl); clear Mx; intro _ Mx) | ((with_reducible apply Wp.ld2 Mx); rfl) | ((with_reducible apply Wp.mnew Mx); clear Mx; intro _ Mx) | ((with_reducible apply Wp.mbox Mx); (rfl); clear Mx; intro _ Mx) | (with_reducible first | refine Wp.join1 (fun _ _ => ?_) | refine Wp.l ?_) | ((with_reducible refine Wp.ift ?_ ?_); ((with_reducible first | apply decide_eq_true | apply bne_t); omega)) | ((with_reducible refine Wp.iff ?_ ?_); first | (with_reducible rfl) | ((with_reducible apply bne_f); omega)) | (with_reducible refine Wp.go1 (by assumption) ?_) | rw [newP_eq])
   exact Wp.ret ⟨rfl, Mx.tch⟩
  ·intro l
   obtain ⟨r, r1, r2, r3⟩ := tree_r hu 1 hk
   refine ⟨r, r1, r2, ?_⟩
   intro n D h hD hn hx
   have hs : ∀ (rd : Nat) (h : AHeap), Rd h rd u 0 → rd < h.next → memB TNode h.ex = false → StepT rd u h (world n D 40 [.ptr rd 0, .int .i64 1] h) r := fun rd h k1 k2 k3 => r3 (by omega) (by omega) (by omega) k1 k2 k3
   cases r with
   | error q =>
    apply Wp.eq
    rw [w_pattern_Tree]
    refine Wp.gc ?_
    suffices hK : Wp (pattern_Tree (world n (D + 2)) n [.int .i64 1, strA u] h) fun r h' => r = .ret (.tup [.agg (nodeC 0 zeroW .nsl), .agg [.int .i64 6, .int .i64 (q : Int)]]) ∧ Tch [] h h' from hK.mono fun r h' ⟨e, t⟩ => ⟨t.above, by rw [e]; rfl, e, rfl⟩
    unfold pattern_Tree
    have ll := lenS_nat u
    have Mx := Mem.nil [] h
    repeat (first | (with_reducible apply Wp.o; first | exact avInt_int _ _ | exact avStr_str _ | exact fldP_ptr _ _ _) | ((with_reducible apply Wp.sa0 Mx); rfl; rfl; (rfl); clear Mx; intro _ Mx) | ((with_reducible apply Wp.ld2 Mx); rfl) | ((with_reducible apply Wp.mnew Mx); clear Mx; intro _ Mx) | ((with_reducible apply Wp.mbox Mx); (rfl); clear Mx; intro _ Mx) | (with_reducible first | refine Wp.join1 (fun _ _ => ?_) | refine Wp.l ?_) | ((with_reducible refine Wp.iff ?_ ?_); first | (with_reducible rfl) | ((with_reducible first | apply decide_eq_false | apply bne_f); omega)) | (with_reducible refine Wp.go1 (by assumption) ?_) | rw [newP_eq])
    obtain ⟨h2, e2, p2, M2⟩ := tree_guard_bad (n := n) (D := D) (xs := []) (hs _) (by rw [List.append_nil]; exact Mx) hx
    refine Wp.callN e2 ?_
    clear Mx
    have Mx := M2
    repeat (first | (with_reducible apply Wp.o; exact avInt_int _ _) | ((with_reducible apply Wp.ld2 Mx); rfl) | ((with_reducible apply Wp.lr2 Mx); rfl) | ((with_reducible apply Wp.sa2 Mx); rfl; rfl; (rfl); clear Mx; intro _ Mx) | ((with_reducible apply Wp.lr3 Mx); rfl) | ((with_reducible apply Wp.sa3 Mx); rfl; rfl; (rfl); clear Mx; intro _ Mx) | ((with_reducible refine Wp.chk ?_ ?_); focus ((repeat' (first | (with_reducible exact rfl) | (with_reducible apply and_t) | ((with_reducible apply Mem.rr2 Mx); kernel_rfl; kernel_rfl))); done)) | (with_reducible first | refine Wp.l ?_ | (apply Wp.o; exact avAgg_agg _)) | ((with_reducible refine Wp.ift ?_ ?_; apply bne_t); omega))
    exact Wp.ret ⟨rfl, Mx.tch⟩
   | ok t =>
    obtain ⟨c, T, h', e, kt, M'⟩ : ∃ c T h', pattern_Tree (world n (D + 2)) n [.int .i64 1, strA u] h = some (.ret (.tup [.agg c, .agg [.int .i64 0, .int .i64 0]]), h') ∧ NodeT t c T ∧ Mem [] h h' T := by
     suffices hK : Wp (pattern_Tree (world n (D + 2)) n [.int .i64 1, strA u] h) fun r h' => ∃ c T, r = .ret (.tup [.agg c, .agg [.int .i64 0, .int .i64 0]]) ∧ NodeT t c T ∧ Mem [] h h' T by
      obtain ⟨_, h', e, c, T, rfl, k1, k2⟩ := hK
      exact ⟨c, T, h', e, k1, k2⟩
     unfold pattern_Tree
     have ll := lenS_nat u
     have Mx := Mem.nil [] h
     repeat (first | (with_reducible apply Wp.o; first | exact avInt_int _ _ | exact avStr_str _ | exact fldP_ptr _ _ _) | ((with_reducible apply Wp.sa0 Mx); rfl; rfl; (rfl); clear Mx; intro _ Mx) | ((with_reducible apply Wp.ld2 Mx); rfl) | ((with_reducible apply Wp.mnew Mx); clear Mx; intro _ Mx) | ((with_reducible apply Wp.mbox Mx); (rfl); clear Mx; intro _ Mx) | (with_reducible first | refine Wp.join1 (fun _ _ => ?_) | refine Wp.l ?_) | ((with_reducible refine Wp.iff ?_ ?_); first | (with_reducible rfl) | ((with_reducible first | apply decide_eq_false | apply bne_f); omega)) | (with_reducible refine Wp.go1 (by assumption) ?_) | rw [newP_eq])
     obtain ⟨c, T, h2, p2, e2, kt, M2⟩ := tree_guard_ok (n := n) (D := D) (xs := []) rfl (hs _) (by rw [List.append_nil]; exact Mx) hx
     refine Wp.callN e2 ?_
     clear Mx
     have Mx := M2
     have hl := kt.len
     have ho := kt.one
     repeat (first | (with_reducible apply Wp.o; exact avInt_int _ _) | ((with_reducible apply Wp.ld2 Mx); rfl) | ((with_reducible apply Wp.sa2 Mx); rfl; rfl; (rfl); clear Mx; intro _ Mx) | (with_reducible first | refine Wp.l ?_ | (apply Wp.o; exact avAgg_agg _)) | ((with_reducible refine Wp.iff ?_ ?_; apply bne_f); omega))
     refine Wp.lr3 Mx hl ?_
     repeat (((with_reducible apply Wp.lr2 Mx); rfl))
     refine Wp.sa3 Mx hl hl ho fun _ Mz => ?_
     clear Mx
     have Mx := Mz
     clear Mz
     repeat (first | ((with_reducible apply Wp.sa2 Mx); rfl; rfl; (rfl); clear Mx; intro _ Mx) | ((with_reducible refine Wp.chk ?_ ?_); focus ((repeat' (first | (with_reducible exact rfl) | (with_reducible apply and_t) | ((with_reducible apply Mem.rr2 Mx); kernel_rfl; kernel_rfl))); done)))
     refine Wp.lr3 Mx hl ?_
     repeat (((with_reducible apply Wp.lr2 Mx); rfl))
     exact Wp.ret ⟨c, T, rfl, kt, Mx.pop.pop.pop.pop.pop⟩
    have M2 := M'
    suffices hK : Wp (gcR h (pattern_Tree (world n (D + 2)) n [.int .i64 1, strA u] h)) fun r h' => ∃ T, r = .ret (.tup [.agg c, .agg [.int .i64 0, .int .i64 0]]) ∧ NodeT t c T ∧ Mem [] h h' T by
     obtain ⟨_, h', e, T, rfl, k1, k2⟩ := hK
     rw [← w_pattern_Tree] at e
     exact ⟨c, T, h', e, k1, k2⟩
    refine Wp.gc2 ⟨_, h', e, ⟨T, rfl, kt, M'⟩, fun _ hl => ?_⟩
    have h1 : AV.loL h.next c = true := by
     have : (AV.loL h.next c && (AV.loL h.next [.int .i64 0, .int .i64 0] && AV.loL h.next [])) = true := hl
     rw [Bool.and_eq_true] at this
     exact this.1
    have hT : T = [] := kt.low (fun y hy => (M'.row y hy).2.2.resolve_left (by simp)) h1
    subst hT
    exact ⟨[], rfl, kt, Mem.nil _ _⟩
 ·-- kind 2
  refine ⟨?_, ?_⟩
  ·intro l n D h hD hn hx
   apply Wp.eq
   rw [w_pattern_Tree]
   refine Wp.gc ?_
   suffices hK : Wp (pattern_Tree (world n D) n [.int .i64 2, strA u] h) fun r h' => r = .ret (.tup [.agg (nodeC 0 zeroW .nsl), .agg [.int .i64 3, .int .i64 64]]) ∧ Tch [] h h' from hK.mono fun r h' ⟨e, t⟩ => ⟨t.above, by rw [e]; rfl, e, rfl⟩
   unfold pattern_Tree
   have ll := lenS_nat u
   have Mx := Mem.nil [] h
   repeat (first | (with_reducible apply Wp.o; first | exact avInt_int _ _ | exact avStr_str _ | exact fldP_ptr _ _ _) | ((with_reducible apply Wp.lr0 Mx); rfl) | ((with_reducible apply Wp.sa0 Mx); rfl; rfl; (rfl); clear Mx; intro _ Mx) | ((with_reducible apply Wp.lr1 Mx); rfl) | ((with_reducible apply Wp.sa1 Mx); rfl; rfl; (rfl); clear Mx; intro _ Mx) | ((with_reducible apply Wp.ld2 Mx); rfl) | ((with_reducible apply Wp.mnew Mx); clear Mx; intro _ Mx) | ((with_reducible apply Wp.mbox Mx); (rfl); clear Mx; intro _ Mx) | (with_reducible first | refine Wp.join1 (fun _ _ => ?_) | refine Wp.l ?_) | ((with_reducible refine Wp.ift ?_ ?_); ((with_reducible first | apply decide_eq_true | apply bne_t); omega)) | ((with_reducible refine Wp.iff ?_ ?_); first | (with_reducible rfl) | ((with_reducible apply bne_f); omega)) | (with_reducible refine Wp.go1 (by assumption) ?_) | rw [newP_eq])
   exact Wp.ret ⟨rfl, Mx.tch⟩
  ·intro l
   obtain ⟨r, r1, r2, r3⟩ := tree_r hu 2 hk
   refine ⟨r, r1, r2, ?_⟩
   intro n D h hD hn hx
   have hs : ∀ (rd : Nat) (h : AHeap), Rd h rd u 0 → rd < h.next → memB TNode h.ex = false → StepT rd u h (world n D 40 [.ptr rd 0, .int .i64 2] h) r := fun rd h k1 k2 k3 => r3 (by omega) (by omega) (by omega) k1 k2 k3
   cases r with
   | error q =>
    apply Wp.eq
    rw [w_pattern_Tree]
    refine Wp.gc ?_
    suffices hK : Wp (pattern_Tree (world n (D + 2)) n [.int .i64 2, strA u] h) fun r h' => r = .ret (.tup [.agg (nodeC 0 zeroW .nsl), .agg [.int .i64 6, .int .i64 (q : Int)]]) ∧ Tch [] h h' from hK.mono fun r h' ⟨e, t⟩ => ⟨t.above, by rw [e]; rfl, e, rfl⟩
    unfold pattern_Tree
    have ll := lenS_nat u
    have Mx := Mem.nil [] h
    repeat (first | (with_reducible apply Wp.o; first | exact avInt_int _ _ | exact avStr_str _ | exact fldP_ptr _ _ _) | ((with_reducible apply Wp.sa0 Mx); rfl; rfl; (rfl); clear Mx; intro _ Mx) | ((with_reducible apply Wp.ld2 Mx); rfl) | ((with_reducible apply Wp.mnew Mx); clear Mx; intro _ Mx) | ((with_reducible apply Wp.mbox Mx); (rfl); clear Mx; intro _ Mx) | (with_reducible first | refine Wp.join1 (fun _ _ => ?_) | refine Wp.l ?_) | ((with_reducible refine Wp.ift ?_ ?_); ((with_reducible first | apply decide_eq_true | apply bne_t); omega)) | ((with_reducible refine Wp.iff ?_ ?_); first | (with_reducible rfl) | ((with_reducible first | apply decide_eq_false | apply bne_f); omega)) | (with_reducible refine Wp.go1 (by assumption) ?_) | rw [newP_eq])
    obtain ⟨h2, e2, p2, M2⟩ := tree_guard_bad (n := n) (D := D) (xs := []) (hs _) (by rw [List.append_nil]; exact Mx) hx
    refine Wp.callN e2 ?_
    clear Mx
    have Mx := M2
    repeat (first | (with_reducible apply Wp.o; exact avInt_int _ _) | ((with_reducible apply Wp.ld2 Mx); rfl) | ((with_reducible apply Wp.lr2 Mx); rfl) | ((with_reducible apply Wp.sa2 Mx); rfl; rfl; (rfl); clear Mx; intro _ Mx) | ((with_reducible apply Wp.lr3 Mx); rfl) | ((with_reducible apply Wp.sa3 Mx); rfl; rfl; (rfl); clear Mx; intro _ Mx) | ((with_reducible refine Wp.chk ?_ ?_); focus ((repeat' (first | (with_reducible exact rfl) | (with_reducible apply and_t) | ((with_reducible apply Mem.rr2 Mx); kernel_rfl; kernel_rfl))); done)) | (with_reducible first | refine Wp.l ?_ | (apply Wp.o; exact avAgg_agg _)) | ((with_reducible refine Wp.ift ?_ ?_; apply bne_t); omega))
    exact Wp.ret ⟨rfl, Mx.tch⟩
   | ok t =>
    obtain ⟨c, T, h', e, kt, M'⟩ : ∃ c T h', pattern_Tree (world n (D + 2)) n [.int .i64 2, strA u] h = some (.ret (.tup [.agg c, .agg [.int .i64 0, .int .i64 0]]), h') ∧ NodeT t c T ∧ Mem [] h h' T := by
     suffices hK : Wp (pattern_Tree (world n (D + 2)) n [.int .i64 2, strA u] h) fun r h' => ∃ c T, r = .ret (.tup [.agg c, .agg [.int .i64 0, .int .i64 0]]) ∧ NodeT t c T ∧ Mem [] h h' T by
      obtain ⟨_, h', e, c, T, rfl, k1, k2⟩ := hK
      exact ⟨c, T, h', e, k1, k2⟩
     unfold pattern_Tree
     have ll := lenS_nat u
     have Mx := Mem.nil [] h
     repeat (first | (with_reducible apply Wp.o; first | exact avInt_int _ _ | exact avStr_str _ | exact fldP_ptr _ _ _) | ((with_reducible apply Wp.sa0 Mx); rfl; rfl; (rfl); clear Mx; intro _ Mx) | ((with_reducible apply Wp.ld2 Mx); rfl) | ((with_reducible apply Wp.mnew Mx); clear Mx; intro _ Mx) | ((with_reducible apply Wp.mbox Mx); (rfl); clear Mx; intro _ Mx) | (with_reducible first | refine Wp.join1 (fun _ _ => ?_) | refine Wp.l ?_) | ((with_reducible refine Wp.ift ?_ ?_); ((with_reducible first | apply decide_eq_true | apply bne_t); omega)) | ((with_reducible refine Wp.iff ?_ ?_); first | (with_reducible rfl) | ((with_reducible first | apply decide_eq_false | apply bne_f); omega)) | (with_reducible refine Wp.go1 (by assumption) ?_) | rw [newP_eq])
     obtain ⟨c, T, h2, p2, e2, kt, M2⟩ := tree_guard_ok (n := n) (D := D) (xs := []) rfl (hs _) (by rw [List.append_nil]; exact Mx) hx
     refine Wp.callN e2 ?_
     clear Mx
     have Mx := M2
     have hl := kt.len
     have ho := kt.one
     repeat (first | (with_reducible apply Wp.o; exact avInt_int _ _) | ((with_reducible apply Wp.ld2 Mx); rfl) | ((with_reducible apply Wp.sa2 Mx); rfl; rfl; (rfl); clear Mx; intro _ Mx) | (with_reducible first | refine Wp.l ?_ | (apply Wp.o; exact avAgg_agg _)) | ((with_reducible refine Wp.iff ?_ ?_; apply bne_f); omega))
     refine Wp.lr3 Mx hl ?_
     repeat (((with_reducible apply Wp.lr2 Mx); rfl))
     refine Wp.sa3 Mx hl hl ho fun _ Mz => ?_
     clear Mx
     have Mx := Mz
     clear Mz
     repeat (first | ((with_reducible apply Wp.sa2 Mx); rfl; rfl; (rfl); clear Mx; intro _ Mx) | ((with_reducible refine Wp.chk ?_ ?_); focus ((repeat' (first | (with_reducible exact rfl) | (with_reducible apply and_t) | ((with_reducible apply Mem.rr2 Mx); kernel_rfl; kernel_rfl))); done)))
     refine Wp.lr3 Mx hl ?_
     repeat (((with_reducible apply Wp.lr2 Mx); rfl))
     exact Wp.ret ⟨c, T, rfl, kt, Mx.pop.pop.pop.pop.pop⟩
    have M2 := M'
    suffices hK : Wp (gcR h (pattern_Tree (world n (D + 2)) n [.int .i64 2, strA u] h)) fun r h' => ∃ T, r = .ret (.tup [.agg c, .agg [.int .i64 0, .int .i64 0]]) ∧ NodeT t c T ∧ Mem [] h h' T by
     obtain ⟨_, h', e, T, rfl, k1, k2⟩ := hK
     rw [← w_pattern_Tree] at e
     exact ⟨c, T, h', e, k1, k2⟩
    refine Wp.gc2 ⟨_, h', e, ⟨T, rfl, kt, M'⟩, fun _ hl => ?_⟩
    have h1 : AV.loL h.next c = true := by
     have : (AV.loL h.next c && (AV.loL h.next [.int .i64 0, .int .i64 0] && AV.loL h.next [])) = true := hl
     rw [Bool.and_eq_true] at this
     exact this.1
    have hT : T = [] := kt.low (fun y hy => (M'.row y hy).2.2.resolve_left (by simp)) h1
    subst hT
    exact ⟨[], rfl, kt, Mem.nil _ _⟩
 ·-- kind 3
  refine ⟨?_, ?_⟩
  ·intro l n D h hD hn hx
   apply Wp.eq
   rw [w_pattern_Tree]
   refine Wp.gc ?_
   suffices hK : Wp (pattern_Tree (world n D) n [.int .i64 3, strA u] h) fun r h' => r = .ret (.tup [.agg (nodeC 0 zeroW .nsl), .agg [.int .i64 3, .int .i64 64]]) ∧ Tch [] h h' from hK.mono fun r h' ⟨e, t⟩ => ⟨t.above, by rw [e]; rfl, e, rfl⟩
   unfold pattern_Tree
   have ll := lenS_nat u
   have Mx := Mem.nil [] h
   repeat (first | (with_reducible apply Wp.o; first | exact avInt_int _ _ | exact avStr_str _ | exact fldP_ptr _ _ _) | ((with_reducible apply Wp.lr0 Mx); rfl) | ((with_reducible apply Wp.sa0 Mx); rfl; rfl; (rfl); clear Mx; intro _ Mx) | ((with_reducible apply Wp.lr1 Mx); rfl) | ((with_reducible apply Wp.sa1 Mx); rfl; rfl; (rfl); clear Mx; intro _ Mx) | ((with_reducible apply Wp.ld2 Mx); rfl) | ((with_reducible apply Wp.mnew Mx); clear Mx; intro _ Mx) | ((with_reducible apply Wp.mbox Mx); (rfl); clear Mx; intro _ Mx) | (with_reducible first | refine Wp.join1 (fun _ _ => ?_) | refine Wp.l ?_) | ((with_reducible refine Wp.ift ?_ ?_); ((with_reducible first | apply decide_eq_true | apply bne_t); omega)) | ((with_reducible refine Wp.iff ?_ ?_; apply bne_f); omega) | (with_reducible refine Wp.go1 (by assumption) ?_) | rw [newP_eq])
   exact Wp.ret ⟨rfl, Mx.tch⟩
  ·intro l
   obtain ⟨r, r1, r2, r3⟩ := tree_r hu 3 hk
   refine ⟨r, r1, r2, ?_⟩
   intro n D h hD hn hx
   have hs : ∀ (rd : Nat) (h : AHeap), Rd h rd u 0 → rd < h.next → memB TNode h.ex = false → StepT rd u h (world n D 40 [.ptr rd 0, .int .i64 3] h) r := fun rd h k1 k2 k3 => r3 (by omega) (by omega) (by omega) k1 k2 k3
   cases r with
   | error q =>
    apply Wp.eq
    rw [w_pattern_Tree]
    refine Wp.gc ?_
    suffices hK : Wp (pattern_Tree (world n (D + 2)) n [.int .i64 3, strA u] h) fun r h' => r = .ret (.tup [.agg (nodeC 0 zeroW .nsl), .agg [.int .i64 6, .int .i64 (q : Int)]]) ∧ Tch [] h h' from hK.mono fun r h' ⟨e, t⟩ => ⟨t.above, by rw [e]; rfl, e, rfl⟩
    unfold pattern_Tree
    have ll := lenS_nat u
    have Mx := Mem.nil [] h
    repeat (first | (with_reducible apply Wp.o; first | exact avInt_int _ _ | exact avStr_str _ | exact fldP_ptr _ _ _) | ((with_reducible apply Wp.sa0 Mx); rfl; rfl; (rfl); clear Mx; intro _ Mx) | ((with_reducible apply Wp.ld2 Mx); rfl) | ((with_reducible apply Wp.mnew Mx); clear Mx; intro _ Mx) | ((with_reducible apply Wp.mbox Mx); (rfl); clear Mx; intro _ Mx) | (with_reducible first | refine Wp.join1 (fun _ _ => ?_) | refine Wp.l ?_) | ((with_reducible refine Wp.ift ?_ ?_); ((with_reducible first | apply decide_eq_true | apply bne_t); omega)) | ((with_reducible refine Wp.iff ?_ ?_); ((with_reducible first | apply decide_eq_false | apply bne_f); omega)) | (with_reducible refine Wp.go1 (by assumption) ?_) | rw [newP_eq])
    obtain ⟨h2, e2, p2, M2⟩ := tree_guard_bad (n := n) (D := D) (xs := []) (hs _) (by rw [List.append_nil]; exact Mx) hx
    refine Wp.callN e2 ?_
    clear Mx
    have Mx := M2
    repeat (first | (with_reducible apply Wp.o; exact avInt_int _ _) | ((with_reducible apply Wp.ld2 Mx); rfl) | ((with_reducible apply Wp.lr2 Mx); rfl) | ((with_reducible apply Wp.sa2 Mx); rfl; rfl; (rfl); clear Mx; intro _ Mx) | ((with_reducible apply Wp.lr3 Mx); rfl) | ((with_reducible apply Wp.sa3 Mx); rfl; rfl; (rfl); clear Mx; intro _ Mx) | ((with_reducible refine Wp.chk ?_ ?_); focus ((repeat' (first | (with_reducible exact rfl) | (with_reducible apply and_t) | ((with_reducible apply Mem.rr2 Mx); kernel_rfl; kernel_rfl))); done)) | (with_reducible first | refine Wp.l ?_ | (apply Wp.o; exact avAgg_agg _)) | ((with_reducible refine Wp.ift ?_ ?_; apply bne_t); omega))
    exact Wp.ret ⟨rfl, Mx.tch⟩
   | ok t =>
    obtain ⟨c, T, h', e, kt, M'⟩ : ∃ c T h', pattern_Tree (world n (D + 2)) n [.int .i64 3, strA u] h = some (.ret (.tup [.agg c, .agg [.int .i64 0, .int .i64 0]]), h') ∧ NodeT t c T ∧ Mem [] h h' T := by
     suffices hK : Wp (pattern_Tree (world n (D + 2)) n [.int .i64 3, strA u] h) fun r h' => ∃ c T, r = .ret (.tup [.agg c, .agg [.int .i64 0, .int .i64 0]]) ∧ NodeT t c T ∧ Mem [] h h' T by
      obtain ⟨_, h', e, c, T, rfl, k1, k2⟩ := hK
      exact ⟨c, T, h', e, k1, k2⟩
     unfold pattern_Tree
     have ll := lenS_nat u
     have Mx := Mem.nil [] h
     repeat (first | (with_reducible apply Wp.o; first | exact avInt_int _ _ | exact avStr_str _ | exact fldP_ptr _ _ _) | ((with_reducible apply Wp.sa0 Mx); rfl; rfl; (rfl); clear Mx; intro _ Mx) | ((with_reducible apply Wp.ld2 Mx); rfl) | ((with_reducible apply Wp.mnew Mx); clear Mx; intro _ Mx) | ((with_reducible apply Wp.mbox Mx); (rfl); clear Mx; intro _ Mx) | (with_reducible first | refine Wp.join1 (fun _ _ => ?_) | refine Wp.l ?_) | ((with_reducible refine Wp.ift ?_ ?_); ((with_reducible first | apply decide_eq_true | apply bne_t); omega)) | ((with_reducible refine Wp.iff ?_ ?_); ((with_reducible first | apply decide_eq_false | apply bne_f); omega)) | (with_reducible refine Wp.go1 (by assumption) ?_) | rw [newP_eq])
     obtain ⟨c, T, h2, p2, e2, kt, M2⟩ := tree_guard_ok (n := n) (D := D) (xs := []) rfl (hs _) (by rw [List.append_nil]; exact Mx) hx
     refine Wp.callN e2 ?_
     clear Mx
     have Mx := M2
     have hl := kt.len
     have ho := kt.one
     repeat (first | (with_reducible apply Wp.o; exact avInt_int _ _) | ((with_reducible apply Wp.ld2 Mx); rfl) | ((with_reducible apply Wp.sa2 Mx); rfl; rfl; (rfl); clear Mx; intro _ Mx) | (with_reducible first | refine Wp.l ?_ | (apply Wp.o; exact avAgg_agg _)) | ((with_reducible refine Wp.iff ?_ ?_; apply bne_f); omega))
     refine Wp.lr3 Mx hl ?_
     repeat (((with_reducible apply Wp.lr2 Mx); rfl))
     refine Wp.sa3 Mx hl hl ho fun _ Mz => ?_
     clear Mx
     have Mx := Mz
     clear Mz
     repeat (first | ((with_reducible apply Wp.sa2 Mx); rfl; rfl; (rfl); clear Mx; intro _ Mx) | ((with_reducible refine Wp.chk ?_ ?_); focus ((repeat' (first | (with_reducible exact rfl) | (with_reducible apply and_t) | ((with_reducible apply Mem.rr2 Mx); kernel_rfl; kernel_rfl))); done)))
     refine Wp.lr3 Mx hl ?_
     repeat (((with_reducible apply Wp.lr2 Mx); rfl))
     exact Wp.ret ⟨c, T, rfl, kt, Mx.pop.pop.pop.pop.pop⟩
    have M2 := M'
    suffices hK : Wp (gcR h (pattern_Tree (world n (D + 2)) n [.int .i64 3, strA u] h)) fun r h' => ∃ T, r = .ret (.tup [.agg c, .agg [.int .i64 0, .int .i64 0]]) ∧ NodeT t c T ∧ Mem [] h h' T by
     obtain ⟨_, h', e, T, rfl, k1, k2⟩ := hK
     rw [← w_pattern_Tree] at e
     exact ⟨c, T, h', e, k1, k2⟩
    refine Wp.gc2 ⟨_, h', e, ⟨T, rfl, kt, M'⟩, fun _ hl => ?_⟩
    have h1 : AV.loL h.next c = true := by
     have : (AV.loL h.next c && (AV.loL h.next [.int .i64 0, .int .i64 0] && AV.loL h.next [])) = true := hl
     rw [Bool.and_eq_true] at this
     exact this.1
    have hT : T = [] := kt.low (fun y hy => (M'.row y hy).2.2.resolve_left (by simp)) h1
    subst hT
    exact ⟨[], rfl, kt, Mem.nil _ _⟩
end
mutual
def Nd.sz : Nd → Nat
 | .mk _ _ ks => szL ks + 1
def szL : List Nd → Nat
 | [] => 0
 | k :: ks => Nd.sz k + szL ks + 1
end
open Go.RowKit Abs
section
variable {a u : Bytes} {k : Nat}
theorem memb_ok {w w' : List Nat} {i j : Nat} (h : memberF a w i = .ok (w', j)) : i < j ∧ j ≤ a.length := by
 unfold memberF at h
 split at h
 ·cases h
 ·rename_i c j' h1
  obtain ⟨_, h2, h3⟩ := memB2_ok h1
  split at h
  ·split at h
   ·cases h
   ·rename_i e k h4
    obtain ⟨_, h5, h6⟩ := memB2_ok h4
    split at h
    ·cases h
    ·cases h
     exact ⟨by omega, h6⟩
  ·cases h
   exact ⟨h2, h3⟩
theorem loopP_bnd {w : List Nat} {j : Nat} {r : Except Nat (List Nat × Nat)} (x : LoopP a w j r) : j ≤ a.length → (∀ w' j', r = .ok (w', j') → j < j' ∧ j' ≤ a.length) ∧ ∀ e, r = .error e → e ≤ a.length := by
 induction x with
 | done n =>
  intro hj
  obtain ⟨hp, _⟩ := at?_some n
  refine ⟨fun w' j' e => ?_, fun e he => by cases he⟩
  cases e
  exact ⟨by omega, by omega⟩
 | bad n h =>
  intro hj
  refine ⟨fun w' j' e => (by cases e), fun e he => ?_⟩
  cases he
  exact memberF_bad hj h
 | more n h m ih =>
  intro hj
  obtain ⟨b1, b2⟩ := memb_ok h
  obtain ⟨c1, c2⟩ := ih b2
  refine ⟨fun w' j' e => ?_, c2⟩
  obtain ⟨d1, d2⟩ := c1 w' j' e
  exact ⟨by omega, d2⟩
theorem setB_bnd {i : Nat} (hi : i ≤ a.length) : i ≤ setB a i ∧ setB a i ≤ a.length := by
 unfold setB
 by_cases h94 : at? a i = some 94
 ·obtain ⟨hp, _⟩ := at?_some h94
  rw [if_pos h94]
  omega
 ·rw [if_neg h94]
  omega
theorem setP_bad {i e : Nat} (x : SetP a i (.error e)) (hi : i ≤ a.length) : e ≤ a.length := by
 obtain ⟨s1, s2⟩ := setB_bnd hi
 generalize hr : Except.error e = r at x
 cases x with
 | bad h =>
  cases hr
  exact memberF_bad s2 h
 | set h m =>
  rename_i w j r
  obtain ⟨b1, b2⟩ := memb_ok h
  cases r with
  | error e' =>
   cases hr
   exact (loopP_bnd m b2).2 _ rfl
  | ok wj => cases hr
theorem setP_okb {i j : Nat} {w : List Nat} (x : SetP a i (.ok (w, j))) (hi : i ≤ a.length) : i < j ∧ j ≤ a.length := by
 obtain ⟨s1, s2⟩ := setB_bnd hi
 generalize hr : Except.ok (w, j) = r at x
 cases x with
 | bad h => cases hr
 | set h m =>
  rename_i w' j' r
  obtain ⟨b1, b2⟩ := memb_ok h
  cases r with
  | error e' => cases hr
  | ok wj =>
   obtain ⟨w2, j2⟩ := wj
   cases hr
   obtain ⟨c1, c2⟩ := (loopP_bnd m b2).1 _ _ rfl
   exact ⟨by omega, c2⟩
mutual
theorem altP_bnd : ∀ {l : List Nd} {i : Nat} {r : Res}, AltP a l i r → i ≤ a.length → Bnd a i r
 | _, _, _, .bad h, hi => rowP_bnd h hi
 | _, _, _, .last h _, hi => by
  obtain ⟨b1, b2⟩ := rowP_bnd h hi
  exact ⟨b1, b2⟩
 | _, _, r, .more h n m, hi => by
  have h1 := rowP_bnd h hi
  obtain ⟨hp, _⟩ := at?_some n
  have h2 := altP_bnd m (by omega)
  cases r with
  | error e => exact h2
  | ok tj =>
   obtain ⟨b1, b2⟩ := h1
   obtain ⟨b3, b4⟩ := h2
   exact ⟨by omega, b4⟩
termination_by structural _ _ _ x => x
theorem rowP_bnd : ∀ {l : List Nd} {i : Nat} {r : Res}, RowP a l i r → i ≤ a.length → Bnd a i r
 | _, _, _, .stop _, hi => ⟨Nat.le_refl _, hi⟩
 | _, _, _, .bad _ h, hi => partP_bnd h hi
 | _, _, r, .more _ h m, hi => by
  obtain ⟨b1, b2⟩ := partP_bnd h hi
  have h2 := rowP_bnd m b2
  cases r with
  | error e => exact h2
  | ok tj =>
   obtain ⟨b3, b4⟩ := h2
   exact ⟨by omega, b4⟩
termination_by structural _ _ _ x => x
theorem partP_bnd : ∀ {i : Nat} {r : Res}, PartP a i r → i ≤ a.length → Bnd1 a i r
 | _, _, .bad h, hi => atomP_bnd h hi
 | _, _, .bare h _, hi => atomP_bnd h hi
 | _, _, .sign (j := j) h n, hi => by
  obtain ⟨b1, b2⟩ := atomP_bnd h hi
  have : j < a.length := by
   rcases Nat.lt_or_ge j a.length with h | h
   ·exact h
   ·exfalso
    apply n
    unfold signAt
    rw [at?_ge h]
  exact ⟨by omega, by omega⟩
termination_by structural _ _ x => x
theorem atomP_bnd : ∀ {i : Nat} {r : Res}, AtomP a i r → i ≤ a.length → Bnd1 a i r
 | _, _, .none _, hi => hi
 | _, _, .open_bad h m, hi => by
  obtain ⟨hp, _⟩ := at?_some h
  exact altP_bnd m (by omega)
 | _, _, .open_end h m _, hi => by
  obtain ⟨hp, _⟩ := at?_some h
  exact (altP_bnd m (by omega)).2
 | _, _, .group h m n, hi => by
  obtain ⟨hp, _⟩ := at?_some h
  obtain ⟨b1, _⟩ := altP_bnd m (by omega)
  obtain ⟨hp2, _⟩ := at?_some n
  exact ⟨by omega, by omega⟩
 | _, _, .any h, hi => by
  obtain ⟨hp, _⟩ := at?_some h
  exact ⟨by omega, by omega⟩
 | _, _, .set_bad h m, hi => by
  obtain ⟨hp, _⟩ := at?_some h
  exact setP_bad m (by omega)
 | _, _, .set h m, hi => by
  obtain ⟨hp, _⟩ := at?_some h
  obtain ⟨b1, b2⟩ := setP_okb m (by omega)
  exact ⟨by omega, b2⟩
 | _, _, .sl_end h _, hi => by
  obtain ⟨hp, _⟩ := at?_some h
  exact hp
 | _, _, .sl h n, hi => by
  obtain ⟨hp, _⟩ := at?_some n
  exact ⟨by omega, by omega⟩
 | _, _, .bad h _, hi => hi
 | _, _, .one h _ _, hi => by
  obtain ⟨hp, _⟩ := at?_some h
  exact ⟨by omega, by omega⟩
termination_by structural _ _ x => x
end
structure LiesIn (a u : Bytes) (k : Nat) : Prop where
 same : ∀ i, i < a.length → at? u (k + i) = at? a i
 stop : at? u (k + a.length) = some 41
theorem LiesIn.some (s : LiesIn a u k) {i c : Nat} (h : at? a i = some c) : at? u (k + i) = some c := by
 obtain ⟨hp, _⟩ := at?_some h
 rw [s.same i hp, h]
end
def inW (w : List Nat) (i : Nat) : Bool := (w.getD (i / 64) 0).testBit (i % 64)
theorem inW_zero (i : Nat) : inW zeroW i = false := by
 unfold inW zeroW
 have : ([0, 0, 0, 0] : List Nat).getD (i / 64) 0 = 0 := by
  rw [List.getD_eq_getElem?_getD]
  match i / 64 with
  | 0 => rfl
  | 1 => rfl
  | 2 => rfl
  | 3 => rfl
  | _ + 4 => rfl
 rw [this, Nat.zero_testBit]
theorem inW_add {w : List Nat} (hw : WordsOk w) {c i : Nat} (hc : c < 256) : inW (addW w c) i = (inW w i || decide (i = c)) := by
 unfold inW addW
 have hl := hw.len
 by_cases h : c / 64 = i / 64
 ·rw [← h, List.getD_eq_getElem?_getD, List.getElem?_set_self (by omega), Option.getD_some, Nat.testBit_or, Nat.testBit_two_pow]
  congr 1
  refine decide_eq_decide.2 ⟨fun h2 => by omega, fun h2 => by rw [h2]⟩
 ·rw [List.getD_eq_getElem?_getD, List.getElem?_set_ne h, ← List.getD_eq_getElem?_getD, decide_eq_false (by intro h2; exact h (by rw [h2])), Bool.or_false]
theorem inW_others {w : List Nat} (hw : WordsOk w) {i : Nat} (hi : i < 256) : inW (othersW w) i = !inW w i := by
 unfold inW othersW
 have hl := hw.len
 have h4 : i / 64 < w.length := by omega
 rw [List.getD_eq_getElem?_getD, List.getElem?_map, List.getD_eq_getElem?_getD, List.getElem?_eq_getElem h4, Option.map_some, Option.getD_some, Option.getD_some, Nat.testBit_xor]
 have : Nat.testBit 18446744073709551615 (i % 64) = true := by
  have := Nat.testBit_two_pow_sub_one 64 (i % 64)
  rw [decide_eq_true (Nat.mod_lt _ (by decide))] at this
  exact this
 rw [this, Bool.xor_true]
theorem inW_ext {v w : List Nat} (hv : WordsOk v) (hw : WordsOk w) (h : ∀ i, i < 256 → inW v i = inW w i) : v = w := by
 have l1 := hv.len
 have l2 := hw.len
 refine List.ext_getElem (by omega) fun k h1 h2 => Nat.eq_of_testBit_eq fun j => ?_
 by_cases hj : j < 64
 ·have := h (k * 64 + j) (by omega)
  unfold inW at this
  rw [show (k * 64 + j) / 64 = k by omega, show (k * 64 + j) % 64 = j by omega, List.getD_eq_getElem?_getD, List.getD_eq_getElem?_getD, List.getElem?_eq_getElem h1, List.getElem?_eq_getElem h2] at this
  exact this
 ·have p : 18446744073709551616 ≤ 2 ^ j := by
   have := Nat.pow_le_pow_right (n := 2) (by decide) (show 64 ≤ j by omega)
   omega
  rw [Nat.testBit_lt_two_pow (Nat.lt_of_lt_of_le (hv.small _ (List.getElem_mem h1)) p), Nat.testBit_lt_two_pow (Nat.lt_of_lt_of_le (hw.small _ (List.getElem_mem h2)) p)]
noncomputable def boolsA (w : List Nat) : List AV := (List.range 256).map fun i => AV.bool (inW w i)
theorem boolsA_len (w : List Nat) : (boolsA w).length = 256 := by simp [boolsA]
theorem boolsA_get (w : List Nat) {i : Nat} (hi : i < 256) : (boolsA w)[i]? = some (.bool (inW w i)) := by
 unfold boolsA
 rw [List.getElem?_map, List.getElem?_range hi]
 rfl
theorem boolsA_set {w : List Nat} (hw : WordsOk w) {c : Nat} (hc : c < 256) : (boolsA w).set c (.bool true) = boolsA (addW w c) := by
 refine List.ext_getElem? fun i => ?_
 by_cases hi : i < 256
 ·rw [boolsA_get _ hi, inW_add hw hc]
  by_cases h : c = i
  ·subst h
   rw [List.getElem?_set_self (by rw [boolsA_len]; exact hi), decide_eq_true rfl, Bool.or_true]
  ·rw [List.getElem?_set_ne h, boolsA_get _ hi, decide_eq_false (Ne.symm h), Bool.or_false]
 ·rw [List.getElem?_eq_none (by rw [List.length_set, boolsA_len]; omega), List.getElem?_eq_none (by rw [boolsA_len]; omega)]
theorem bools0 : boolsA zeroW = [.bool false, .bool false, .bool false, .bool false, .bool false, .bool false, .bool false, .bool false, .bool false, .bool false, .bool false, .bool false, .bool false, .bool false, .bool false, .bool false, .bool false, .bool false, .bool false, .bool false, .bool false, .bool false, .bool false, .bool false, .bool false, .bool false, .bool false, .bool false, .bool false, .bool false, .bool false, .bool false, .bool false, .bool false, .bool false, .bool false, .bool false, .bool false, .bool false, .bool false, .bool false, .bool false, .bool false, .bool false, .bool false, .bool false, .bool false, .bool false, .bool false, .bool false, .bool false, .bool false, .bool false, .bool false, .bool false, .bool false, .bool false, .bool false, .bool false, .bool false, .bool false, .bool false, .bool false, .bool false, .bool false, .bool false, .bool false, .bool false, .bool false, .bool false, .bool false, .bool false, .bool false, .bool false, .bool false, .bool false, .bool false, .bool false, .bool false, .bool false, .bool false, .bool false, .bool false, .bool false, .bool false, .bool false, .bool false, .bool false, .bool false, .bool false, .bool false, .bool false, .bool false, .bool false, .bool false, .bool false, .bool false, .bool false, .bool false, .bool false, .bool false, .bool false, .bool false, .bool false, .bool false, .bool false, .bool false, .bool false, .bool false, .bool false, .bool false, .bool false, .bool false, .bool false, .bool false, .bool false, .bool false, .bool false, .bool false, .bool false, .bool false, .bool false, .bool false, .bool false, .bool false, .bool false, .bool false, .bool false, .bool false, .bool false, .bool false, .bool false, .bool false, .bool false, .bool false, .bool false, .bool false, .bool false, .bool false, .bool false, .bool false, .bool false, .bool false, .bool false, .bool false, .bool false, .bool false, .bool false, .bool false, .bool false, .bool false, .bool false, .bool false, .bool false, .bool false, .bool false, .bool false, .bool false, .bool false, .bool false, .bool false, .bool false, .bool false, .bool false, .bool false, .bool false, .bool false, .bool false, .bool false, .bool false, .bool false, .bool false, .bool false, .bool false, .bool false, .bool false, .bool false, .bool false, .bool false, .bool false, .bool false, .bool false, .bool false, .bool false, .bool false, .bool false, .bool false, .bool false, .bool false, .bool false, .bool false, .bool false, .bool false, .bool false, .bool false, .bool false, .bool false, .bool false, .bool false, .bool false, .bool false, .bool false, .bool false, .bool false, .bool false, .bool false, .bool false, .bool false, .bool false, .bool false, .bool false, .bool false, .bool false, .bool false, .bool false, .bool false, .bool false, .bool false, .bool false, .bool false, .bool false, .bool false, .bool false, .bool false, .bool false, .bool false, .bool false, .bool false, .bool false, .bool false, .bool false, .bool false, .bool false, .bool false, .bool false, .bool false, .bool false, .bool false, .bool false, .bool false, .bool false, .bool false, .bool false, .bool false, .bool false, .bool false, .bool false, .bool false, .bool false, .bool false, .bool false, .bool false, .bool false, .bool false, .bool false, .bool false] := by kernel_rfl
theorem quoU8_64 {c : Nat} (h : c < 256) : quoI .u8 (c : Int) 64 = some ((c / 64 : Nat) : Int) := by
 unfold quoI
 rw [if_neg (by decide), Int.tdiv_eq_ediv_of_nonneg (by omega), wrap_u8_mod]
 congr 1
 omega
theorem remU8_64 {c : Nat} : remI .u8 (c : Int) 64 = some ((c % 64 : Nat) : Int) := by
 unfold remI
 rw [if_neg (by decide), Int.tmod_eq_emod_of_nonneg (by omega)]
 congr 1
section
variable {n d b p q i : Nat} {h h0 : AHeap} {u : Bytes} {Q : ARes → AHeap → Prop} {S : List Nat} {xs T T0 T1 : List RowT} {kc : List (List AV)} {kv : AV} {l : List Nd} {w : List Nat}
theorem addW_zero {c : Nat} : zeroW.set (c / 64) (2 ^ (c % 64)) = spanW zeroW c 1 := by
 show _ = addW zeroW c
 unfold addW
 have : zeroW.getD (c / 64) 0 = 0 := by
  unfold zeroW
  rw [List.getD_eq_getElem?_getD]
  match c / 64 with
  | 0 => rfl
  | 1 => rfl
  | 2 => rfl
  | 3 => rfl
  | _ + 4 => rfl
 rw [this, Nat.zero_or]
theorem One_w {c : Nat} (hc : c < 256) : world n (d + 1) 64 [.int .u8 (c : Int)] h = some (.ret (.agg (nodeC 2 (spanW zeroW c 1) .nsl)), h) := by
 apply Wp.eq
 rw [w_ref09_One]
 refine Wp.gc ?_
 suffices hK : Wp (ref09_One (world n d) n c h) fun r h' => r = .ret (.agg (nodeC 2 (spanW zeroW c 1) .nsl)) ∧ Tch [] h h' from hK.mono fun r h' ⟨e, t⟩ => ⟨t.above, by rw [e]; exact nodeC_scal _ _, e, rfl⟩
 unfold ref09_One
 have Mx := Mem.nil [] h
 have hi : c / 64 < 4 := by omega
 have e1 := quoU8_64 hc
 have e2 : ∀ b, idxA 4 1 (.ptr b 1) ((c / 64 : Nat) : Int) = some (.ptr b (1 + c / 64)) := fun b => idxA_ptr hi
 have e3 := remU8_64 (c := c)
 have e4 := shlI_one (k := c % 64) (Nat.mod_lt _ (by decide))
 repeat (first | ((with_reducible apply Wp.sa0 Mx); rfl; rfl; (rfl); clear Mx; intro _ Mx) | ((with_reducible apply Wp.mnew Mx); clear Mx; intro _ Mx) | (with_reducible apply Wp.o; first | exact e1 | exact e2 _ | exact e3 | exact e4) | rw [newP_eq])
 have k0 : RowH _ _ _ ([AV.int .i64 2] ++ (wordsA zeroW ++ [AV.nsl])) := Mx.at0.1
 refine Wp.st1 k0 (by simp [wordsA_len]; unfold zeroW; simp; omega) rfl fun h5 k5 t5 _ => ?_
 have hs : ([AV.int .i64 2] ++ (wordsA zeroW ++ [AV.nsl])).set (1 + c / 64) (.int .u64 ((2 ^ (c % 64) : Nat) : Int)) = nodeC 2 (spanW zeroW c 1) AV.nsl := by
  have := set_words (pre := [AV.int .i64 2]) (post := [.nsl]) (w := zeroW) (i := c / 64) (x := 2 ^ (c % 64)) hi
  rw [addW_zero] at this
  exact this
 rw [hs] at k5
 have Mz := Mem.upd (xs := []) Mx t5 k5
 clear Mx
 have Mx := Mz
 clear Mz k0 k5
 have ho := nodeC_one (kv := .nsl) (op := 2) (w := spanW zeroW c 1) rfl
 have hl : (nodeC 2 (spanW zeroW c 1) .nsl).length = 6 := nodeC_len (op := 2) (spanW_ok 1 zeroW_ok c)
 refine Wp.lr0 Mx hl ?_
 refine Wp.sa1 Mx hl rfl ho fun h6 Mz => ?_
 refine Wp.lr1 Mz hl ?_
 exact Wp.ret ⟨rfl, Mz.tch⟩
theorem All_loop {hp0 : AHeap} {pre post : List AV} {k12 : AHeap → R} (hpre : pre.length = 1) (eq : hp0.next = b) {e : TypeId} : ∀ (m f lo : Nat) (w : List Nat) (H : AHeap), m < f → lo + m = 256 → WordsOk w → RowH H b e (pre ++ (wordsA w ++ post)) →
   (∀ H', RowH H' b e (pre ++ (wordsA (spanW w lo m) ++ post)) → Tch [b] H H' → Wp (k12 H') Q) → Wp (ref09_All_L0 hp0 k12 f (lo : Int) H) Q
 | _, 0, _, _, _, hf, _, _, _, _ => by omega
 | 0, f + 1, lo, w, H, hf, hm, hw, k, hk => by
  rw [ref09_All_L0_s]
  unfold ref09_All_L0b
  repeat (first | (with_reducible refine Wp.l ?_) | ((with_reducible refine Wp.iff ?_ ?_; apply decide_eq_false); omega))
  exact hk H k (Tch.refl _ _)
 | m + 1, f + 1, lo, w, H, hf, hm, hw, k, hk => by
  rw [ref09_All_L0_s]
  unfold ref09_All_L0b
  have hi : lo / 64 < 4 := by omega
  have hl : lo / 64 < w.length := by rw [hw.len]; exact hi
  have hc := get_words (pre := pre) (post := post) hl
  have e1 := quoI_64 (c := lo) (by omega)
  have e2 : idxA 4 1 (.ptr hp0.next 1) ((lo / 64 : Nat) : Int) = some (.ptr b (1 + lo / 64)) := by rw [eq]; exact idxA_ptr hi
  have e3 := remI_64 (c := lo)
  have e4 := shlI_one (k := lo % 64) (Nat.mod_lt _ (by decide))
  rw [hpre] at hc
  have e5 := RowH.cell' k hc
  repeat (first | (with_reducible first | refine Wp.l ?_ | (apply Wp.o; first | exact e1 | exact e2 | exact e3 | exact e4 | exact e5 | exact avInt_int _ _)) | ((with_reducible refine Wp.ift ?_ ?_; apply decide_eq_true); omega))
  rw [orI_nat (hw.get _) (pow_small (Nat.mod_lt _ (by decide)))]
  refine Wp.st1 k (by simp [wordsA_len]; omega) rfl fun h' k' t' _ => ?_
  rw [← hpre, set_words hl] at k'
  repeat (((with_reducible refine Wp.lettw ?_ ?_ ?_); omega; omega))
  have el : (lo : Int) + 1 = ((lo + 1 : Nat) : Int) := by omega
  rw [el]
  exact All_loop hpre eq m f (lo + 1) (addW w lo) h' (by omega) (by omega) (addW_ok hw lo) k' fun H' k2 t2 => hk H' k2 (t'.trans t2)
theorem All_w (hn : 300 < n) : world n (d + 1) 66 [] h = some (.ret (.agg (nodeC 2 anyW .nsl)), h) := by
 apply Wp.eq
 rw [w_ref09_All]
 refine Wp.gc ?_
 suffices hK : Wp (ref09_All (world n d) n h) fun r h' => r = .ret (.agg (nodeC 2 anyW .nsl)) ∧ Tch [] h h' from hK.mono fun r h' ⟨e, t⟩ => ⟨t.above, by rw [e]; exact nodeC_scal _ _, e, rfl⟩
 unfold ref09_All
 have Mx := Mem.nil [] h
 repeat (first | ((with_reducible apply Wp.sa0 Mx); rfl; rfl; (rfl); clear Mx; intro _ Mx) | ((with_reducible apply Wp.mnew Mx); clear Mx; intro _ Mx) | (with_reducible refine Wp.join0 (fun _ _ => ?_)) | rw [newP_eq])
 rename_i k12 ek12
 have k0 : RowH _ _ _ ([AV.int .i64 2] ++ (wordsA zeroW ++ [AV.nsl])) := Mx.at0.1
 refine All_loop (lo := 0) rfl rfl 256 n _ _ (by omega) rfl zeroW_ok k0 fun h5 k5 t5 => ?_
 refine Wp.go0 ek12 ?_
 have Mz := Mem.upd (xs := []) Mx t5 k5
 clear Mx
 have Mx := Mz
 clear Mz k0 k5
 have : spanW zeroW 0 256 = anyW := anyW_eq
 rw [this] at Mx
 have ho := nodeC_one (kv := .nsl) (op := 2) (w := anyW) rfl
 have hl : ([AV.int .i64 2] ++ (wordsA (anyW) ++ [AV.nsl])).length = 6 := nodeC_len (op := 2) anyW_ok
 refine Wp.lr0 Mx hl ?_
 refine Wp.sa1 Mx hl rfl ho fun h6 Mz => ?_
 refine Wp.lr1 Mz hl ?_
 exact Wp.ret ⟨rfl, Mz.tch⟩
theorem Over_r (op : Nat) (Mx : Mem S h0 h (xs ++ (T0 ++ T1))) (g : GrowT TNode 6 kc kv T0) (k : KidsT l kc T1) : ∃ c T h', world n (d + 1) 65 [.int .i64 (op : Int), kv] h = some (.ret (.agg c), h') ∧ NodeT (joinN op l) c T ∧ Mem S h0 h' (xs ++ T) := by
 have hkl := k.len
 match l, k, hkl with
 | [], k, hkl =>
  cases k
  rcases g.2 with ⟨_, rfl, rfl⟩ | ⟨hh, _⟩
  ·refine ⟨nodeC 1 zeroW .nsl, [], ?_⟩
   suffices hK : ∃ h', world n (d + 1) 65 [.int .i64 (op : Int), .nsl] h = some (.ret (.agg (nodeC 1 zeroW .nsl)), h') ∧ Mem S h0 h' (xs ++ ([] ++ [])) by
    obtain ⟨h', e, M'⟩ := hK
    exact ⟨h', e, NodeT.leaf 1 zeroW_ok, M'⟩
   apply Wp.ex
   rw [w_ref09_Over]
   unfold ref09_Over
   have hlen : lenL .nsl = some 0 := rfl
   repeat (first | ((with_reducible apply Wp.lr0 Mx); rfl) | ((with_reducible apply Wp.sa0 Mx); rfl; rfl; (rfl); clear Mx; intro _ Mx) | ((with_reducible apply Wp.mnew Mx); clear Mx; intro _ Mx) | (with_reducible first | refine Wp.l ?_ | (apply Wp.o; exact hlen)) | ((with_reducible refine Wp.ift ?_ ?_; apply beq_t); omega) | rw [newP_eq])
   exact Wp.ret ⟨rfl, Mx.pop⟩
  ·exact absurd rfl hh
 | [t], k, hkl =>
  obtain ⟨c, rfl, kt⟩ := k.one
  obtain ⟨q, rfl, rfl⟩ := grow_single g
  refine ⟨c, T1, ?_⟩
  suffices hK : ∃ h', world n (d + 1) 65 [.int .i64 (op : Int), .sl q 0 1 6] h = some (.ret (.agg c), h') ∧ Mem S h0 h' (xs ++ ([(q, TNode, c)] ++ T1)) by
   obtain ⟨h', e, M'⟩ := hK
   exact ⟨h', e, kt, mem_mid M'⟩
  apply Wp.ex
  rw [w_ref09_Over]
  unfold ref09_Over
  have hlen : lenL (.sl q 0 1 6) = some 1 := rfl
  have ei : idxP 6 (.sl q 0 1 6) 0 = some (.ptr q 0) := idx0 q 0
  repeat (first | ((with_reducible apply Wp.mnew Mx); clear Mx; intro _ Mx) | (with_reducible first | refine Wp.l ?_ | (apply Wp.o; first | exact hlen | exact ei)) | ((with_reducible refine Wp.ift ?_ ?_; apply beq_t); omega) | ((with_reducible refine Wp.iff ?_ ?_; apply beq_f); omega) | rw [newP_eq])
  refine Wp.o (RowH.ldAll (Mem.at (xs := _ :: xs) Mx).1 kt.len) ?_
  refine Wp.sa0 Mx kt.len rfl kt.one fun h6 Mz => ?_
  refine Wp.lr0 Mz kt.len ?_
  exact Wp.ret ⟨rfl, Mz.pop⟩
 | t :: t' :: ts, k, hkl =>
  refine ⟨nodeC op zeroW kv, T0 ++ T1, ?_⟩
  suffices hK : ∃ h', world n (d + 1) 65 [.int .i64 (op : Int), kv] h = some (.ret (.agg (nodeC op zeroW kv)), h') ∧ Mem S h0 h' (xs ++ (T0 ++ T1)) by
   obtain ⟨h', e, M'⟩ := hK
   exact ⟨h', e, NodeT.mk zeroW_ok g k, M'⟩
  apply Wp.ex
  rw [w_ref09_Over]
  unfold ref09_Over
  have hlen := g.len
  simp only [List.length_cons] at hkl
  have hl := nodeC_len (kv := kv) (op := op) zeroW_ok
  have ho := nodeC_one (op := op) (w := zeroW) g.one.1
  have hb := overBld g op
  repeat (first | ((with_reducible apply Wp.lr0 Mx); rfl) | ((with_reducible apply Wp.sa0 Mx); rfl; rfl; ((with_reducible assumption)); clear Mx; intro _ Mx) | ((with_reducible apply Wp.mnew Mx); clear Mx; intro _ Mx) | (with_reducible first | refine Wp.l ?_ | (apply Wp.o; first | exact hlen | exact hb)) | ((with_reducible refine Wp.iff ?_ ?_; apply beq_f); omega) | rw [newP_eq])
  exact Wp.ret ⟨rfl, Mx.pop⟩
def mem3 : Except Nat (Nat × Nat) → AV
 | .ok (c, j) => .tup [.int .u8 (c : Int), .int .i64 (j : Int), .bool true]
 | .error q => .tup [.int .u8 0, .int .i64 (q : Int), .bool false]
theorem member_w (hi : i ≤ u.length) (hu : u.length ≤ 1000000) : world n (d + 1) 89 [strA u, .int .i64 (i : Int)] h = some (.ret (mem3 (memB2 u i)), h) := by
 apply Wp.eq
 rw [w_ref09_member]
 have hsc : ∀ x, (mem3 x).scal = true := fun x => by cases x <;> rfl
 suffices hK : Wp (ref09_member (world n d) n u i h) fun r h' => r = .ret (mem3 (memB2 u i)) ∧ h' = h from Wp.gc (hK.mono fun r h' ⟨e, e2⟩ => ⟨by rw [e2]; exact Above.refl _, by rw [e]; exact hsc _, e, rfl⟩)
 unfold ref09_member memB2
 have ll := lenS_nat u
 rcases Nat.lt_or_ge i u.length with hlt | hge
 ·rw [at?_lt hlt]
  have hx := idxS_nat (l := u) hlt
  generalize hc : (u[i]).toNat = c at hx
  dsimp only
  by_cases h92 : c = 92
  ·rw [if_pos h92]
   rcases Nat.lt_or_ge (i + 1) u.length with hlt1 | hge1
   ·rw [at?_lt hlt1]
    have hx1 := idxS_nat (l := u) hlt1
    rw [show ((i + 1 : Nat) : Int) = (i : Int) + 1 by omega] at hx1
    repeat (first | (with_reducible refine Wp.join1 (fun _ _ => ?_)) | ((with_reducible refine Wp.lettw ?_ ?_ ?_); omega; omega) | (with_reducible first | refine Wp.l ?_ | (apply Wp.o; first | exact hx | exact hx1)) | ((with_reducible refine Wp.iff ?_ ?_); ((with_reducible first | apply bne_f | apply beq_f); omega)) | (with_reducible refine Wp.go1 (by assumption) ?_))
    exact Wp.ret ⟨by simp [mem3], rfl⟩
   ·rw [at?_ge hge1]
    repeat (first | (with_reducible refine Wp.join1 (fun _ _ => ?_)) | ((with_reducible refine Wp.lettw ?_ ?_ ?_); omega; omega) | (with_reducible first | refine Wp.l ?_ | (apply Wp.o; exact hx)) | ((with_reducible refine Wp.ift ?_ ?_); ((with_reducible first | apply bne_t | apply beq_t); omega)) | ((with_reducible refine Wp.iff ?_ ?_); ((with_reducible first | apply bne_f | apply beq_f); omega)) | (with_reducible refine Wp.go1 (by assumption) ?_))
    exact Wp.ret ⟨by simp [mem3], rfl⟩
  ·rw [if_neg h92]
   by_cases h1 : c = 91
   ·rw [if_pos (.inl h1)]
    repeat (first | (with_reducible first | refine Wp.join1 (fun _ _ => ?_) | refine Wp.l ?_ | (apply Wp.o; exact hx)) | ((with_reducible refine Wp.ift ?_ ?_); first | (with_reducible rfl) | ((with_reducible apply beq_t); omega)) | ((with_reducible refine Wp.iff ?_ ?_; apply beq_f); omega) | (with_reducible refine Wp.go1 (by assumption) ?_))
    exact Wp.ret ⟨by simp [mem3], rfl⟩
   by_cases h2 : c = 93
   ·rw [if_pos (.inr (.inl h2))]
    repeat (first | (with_reducible first | refine Wp.join1 (fun _ _ => ?_) | refine Wp.l ?_ | (apply Wp.o; exact hx)) | ((with_reducible refine Wp.ift ?_ ?_); first | (with_reducible rfl) | ((with_reducible apply beq_t); omega)) | ((with_reducible refine Wp.iff ?_ ?_; apply beq_f); omega) | (with_reducible refine Wp.go1 (by assumption) ?_))
    exact Wp.ret ⟨by simp [mem3], rfl⟩
   by_cases h3 : c = 94
   ·rw [if_pos (.inr (.inr (.inl h3)))]
    repeat (first | (with_reducible first | refine Wp.join1 (fun _ _ => ?_) | refine Wp.l ?_ | (apply Wp.o; exact hx)) | ((with_reducible refine Wp.ift ?_ ?_); first | (with_reducible rfl) | ((with_reducible apply beq_t); omega)) | ((with_reducible refine Wp.iff ?_ ?_; apply beq_f); omega) | (with_reducible refine Wp.go1 (by assumption) ?_))
    exact Wp.ret ⟨by simp [mem3], rfl⟩
   by_cases h4 : c = 45
   ·rw [if_pos (.inr (.inr (.inr h4)))]
    repeat (first | (with_reducible first | refine Wp.join1 (fun _ _ => ?_) | refine Wp.l ?_ | (apply Wp.o; exact hx)) | ((with_reducible refine Wp.ift ?_ ?_; apply beq_t); omega) | ((with_reducible refine Wp.iff ?_ ?_; apply beq_f); omega) | (with_reducible refine Wp.go1 (by assumption) ?_))
    exact Wp.ret ⟨by simp [mem3], rfl⟩
   ·rw [if_neg (by omega)]
    repeat (first | (with_reducible refine Wp.join1 (fun _ _ => ?_)) | ((with_reducible refine Wp.lettw ?_ ?_ ?_); omega; omega) | (with_reducible first | refine Wp.l ?_ | (apply Wp.o; exact hx)) | ((with_reducible refine Wp.ift ?_ ?_); ((with_reducible first | apply bne_t | apply beq_t); omega)) | ((with_reducible refine Wp.iff ?_ ?_; apply beq_f); omega) | (with_reducible refine Wp.go1 (by assumption) ?_))
    exact Wp.ret ⟨by simp [mem3], rfl⟩
 ·rw [at?_ge hge]
  repeat (first | (with_reducible first | refine Wp.join1 (fun _ _ => ?_) | refine Wp.l ?_) | ((with_reducible refine Wp.ift ?_ ?_); first | (with_reducible rfl) | ((with_reducible apply beq_t); omega)) | (with_reducible refine Wp.go1 (by assumption) ?_))
  exact Wp.ret ⟨by simp [mem3], rfl⟩
end
abbrev TBools : Nat := 109
noncomputable def set3 : Except Nat (List Nat × Nat) → AV
 | .ok (w, j) => .tup [.agg (nodeC 2 w .nsl), .int .i64 (j : Int), .bool true]
 | .error q => .tup [.agg (nodeC 0 zeroW .nsl), .int .i64 (q : Int), .bool false]
section
variable {n d i j : Nat} {h H h0 hb hx : AHeap} {u : Bytes} {Q : ARes → AHeap → Prop} {S : List Nat} {ys : List RowT} {w : List Nat} {k25 : Int → AHeap → R}
theorem bool_loop {k108 : AHeap → R} : ∀ (m f lo : Nat) (w : List Nat) (H : AHeap), m < f → lo + m ≤ 256 → WordsOk w → Mem [] h H ((hb.next, TBools, boolsA w) :: ys) →
   (∀ H', Mem [] h H' ((hb.next, TBools, boolsA (spanW w lo m)) :: ys) → Wp (k108 H') Q) → Wp (ref09_class_L2 hb ((lo + m : Nat) - 1 : Int) k108 f (lo : Int) H) Q
 | _, 0, _, _, _, hf, _, _, _, _ => by omega
 | 0, f + 1, lo, w, H, hf, hm, hw, M, hk => by
  rw [ref09_class_L2_s]
  unfold ref09_class_L2b
  repeat (first | ((with_reducible refine Wp.lettw ?_ ?_ ?_); omega; omega) | (with_reducible refine Wp.l ?_) | ((with_reducible refine Wp.iff ?_ ?_; apply decide_eq_false); omega))
  exact hk H M
 | m + 1, f + 1, lo, w, H, hf, hm, hw, M, hk => by
  rw [ref09_class_L2_s]
  unfold ref09_class_L2b
  have hl : lo < 256 := by omega
  have e2 : idxA 256 1 (.ptr hb.next 0) ((lo : Nat) : Int) = some (.ptr hb.next lo) := by
   have := idxA_ptr (b := hb.next) (o := 0) hl
   rw [Nat.zero_add] at this
   exact this
  repeat (first | ((with_reducible refine Wp.lettw ?_ ?_ ?_); omega; omega) | (with_reducible first | refine Wp.l ?_ | (apply Wp.o; exact e2)) | ((with_reducible refine Wp.ift ?_ ?_; apply decide_eq_true); omega) | rw [newP_eq])
  refine Wp.ms0 M (by rw [boolsA_len]; exact hl) rfl fun h' M' => ?_
  rw [boolsA_set hw hl] at M'
  repeat (((with_reducible refine Wp.lettw ?_ ?_ ?_); omega; omega))
  have eh : ((lo + (m + 1) : Nat) - 1 : Int) = ((lo + 1 + m : Nat) - 1 : Int) := by omega
  have el : (lo : Int) + 1 = ((lo + 1 : Nat) : Int) := by omega
  rw [eh, el]
  exact bool_loop m f (lo + 1) (addW w lo) h' (by omega) (by omega) (addW_ok hw lo) M' hk
theorem pick_loop {nt : Bool} {k31 : AHeap → R} (hw : WordsOk w) : ∀ (m f k : Nat) (v : List Nat) (H : AHeap), m < f → k + m = 256 → WordsOk v → (∀ i, i < 256 → inW v i = (decide (i < k) && !(inW w i == nt))) → Mem [] h H ((hb.next, TBools, boolsA w) :: (hx.next, TNode, nodeC 2 v .nsl) :: ys) →
   (∀ H' v', WordsOk v' → (∀ i, i < 256 → inW v' i = !(inW w i == nt)) → Mem [] h H' ((hb.next, TBools, boolsA w) :: (hx.next, TNode, nodeC 2 v' .nsl) :: ys) → Wp (k31 H') Q) → Wp (ref09_class_L0 hx nt hb k31 f (k : Int) H) Q
 | _, 0, _, _, _, hf, _, _, _, _, _ => by omega
 | 0, f + 1, k, v, H, hf, hm, hv, hb, M, hk => by
  rw [ref09_class_L0_s]
  unfold ref09_class_L0b
  repeat (first | (with_reducible refine Wp.l ?_) | ((with_reducible refine Wp.iff ?_ ?_; apply decide_eq_false); omega))
  refine hk H v hv (fun i hi => ?_) M
  rw [hb i hi, decide_eq_true (by omega), Bool.true_and]
 | m + 1, f + 1, k, v, H, hf, hm, hv, hbit, M, hk => by
  rw [ref09_class_L0_s]
  unfold ref09_class_L0b
  have hl : k < 256 := by omega
  have e2 : idxA 256 1 (.ptr hb.next 0) ((k : Nat) : Int) = some (.ptr hb.next k) := by
   have := idxA_ptr (b := hb.next) (o := 0) hl
   rw [Nat.zero_add] at this
   exact this
  have el : (k : Int) + 1 = ((k + 1 : Nat) : Int) := by omega
  repeat (first | (with_reducible first | refine Wp.l ?_ | (apply Wp.o; exact e2)) | ((with_reducible refine Wp.ift ?_ ?_; apply decide_eq_true); omega) | rw [newP_eq])
  refine Wp.ld0 M (boolsA_get w hl) ?_
  by_cases hb2 : (inW w k == nt) = true
  ·have hb3 : (!(inW w k == nt)) = false := by rw [hb2]; rfl
   repeat (first | (with_reducible refine Wp.join0 (fun _ _ => ?_)) | ((with_reducible refine Wp.lettw ?_ ?_ ?_); omega; omega) | (with_reducible first | refine Wp.l ?_ | (apply Wp.o; exact avBool_bool _) | (refine Wp.iff ?_ ?_; assumption) | refine Wp.go0 (by assumption) ?_))
   rw [el]
   refine pick_loop hw m f (k + 1) v H (by omega) (by omega) hv (fun i hi => ?_) M hk
   rw [hbit i hi]
   by_cases h2 : i = k
   ·subst h2
    rw [hb3, Bool.and_false, Bool.and_false]
   ·rw [decide_eq_decide.2 (show i < k ↔ i < k + 1 by omega)]
  ·have hb3 : (!(inW w k == nt)) = true := by simpa using hb2
   have hi : k / 64 < 4 := by omega
   have hl4 : k / 64 < v.length := by rw [hv.len]; exact hi
   have e1 := quoI_64 (c := k) (by omega)
   have e5 : idxA 4 1 (.ptr hx.next 1) ((k / 64 : Nat) : Int) = some (.ptr hx.next (1 + k / 64)) := idxA_ptr hi
   have e3 := remI_64 (c := k)
   have e4 := shlI_one (k := k % 64) (Nat.mod_lt _ (by decide))
   have hc : (nodeC 2 v .nsl)[1 + k / 64]? = _ := get_words (pre := [.int .i64 2]) (post := [.nsl]) hl4
   repeat (with_reducible first | refine Wp.join0 (fun _ _ => ?_) | refine Wp.l ?_ | (apply Wp.o; first | exact e1 | exact e5 | exact avBool_bool _) | (refine Wp.ift ?_ ?_; assumption))
   refine Wp.ld1 M hc ?_
   repeat (with_reducible first | refine Wp.l ?_ | (apply Wp.o; first | exact e5 | exact e3 | exact e4 | exact avInt_int _ _))
   rw [orI_nat (hv.get _) (pow_small (Nat.mod_lt _ (by decide)))]
   refine Wp.ms1 M (by rw [nodeC_len hv]; omega) rfl fun h' M' => ?_
   have hs : (nodeC 2 v .nsl).set (1 + k / 64) (.int .u64 ((v.getD (k / 64) 0 ||| 2 ^ (k % 64) : Nat) : Int)) = nodeC 2 (addW v k) .nsl := set_words (pre := [.int .i64 2]) (post := [.nsl]) hl4
   rw [hs] at M'
   repeat (first | ((with_reducible refine Wp.lettw ?_ ?_ ?_); omega; omega) | (with_reducible refine Wp.go0 (by assumption) ?_))
   rw [el]
   refine pick_loop hw m f (k + 1) (addW v k) h' (by omega) (by omega) (addW_ok hv k) (fun i hi => ?_) M' hk
   rw [inW_add hv hl, hbit i hi]
   by_cases h2 : i = k
   ·subst h2
    rw [hb3, decide_eq_true rfl, Bool.or_true, decide_eq_true (Nat.lt_succ_self _), Bool.true_and]
   ·rw [decide_eq_decide.2 (show i < k ↔ i < k + 1 by omega), decide_eq_false h2, Bool.or_false]
theorem class_enter {first : Bool} {B E : AHeap → R} (hi : j ≤ u.length) (hen : first = true ∨ at? u j ≠ some 93) (hB : Wp (B H) Q) :
  Wp (lett (fun (t37 : Bool) (h69 : AHeap) => lett (fun (t43 : Bool) (h72 : AHeap) => ifB t43 (B h72) (E h72)) fun j43 => ifB t37 (j43 true h69) (obind (idxS u (j : Int)) fun t41 => lett ((t41 : Int) != 93) fun (t42 : Bool) => j43 t42 h69)) fun j37 => ifB first (j37 true H) (lett (((j : Nat) : Int) == (lenS u)) fun (t36 : Bool) => j37 t36 H)) Q := by
 cases first with
 | true =>
  repeat (with_reducible first | refine Wp.join1 (fun _ _ => ?_) | (refine Wp.ift ?_ ?_; rfl) | refine Wp.go1 (by assumption) ?_)
  exact hB
 | false =>
  have hne := hen.resolve_left (by simp)
  have ll := lenS_nat u
  rcases Nat.lt_or_ge j u.length with hlt | hge
  ·rw [at?_lt hlt] at hne
   have hx := idxS_nat (l := u) hlt
   have h93 : (u[j]).toNat ≠ 93 := fun hh => hne (by rw [hh])
   repeat (first | (with_reducible first | refine Wp.join1 (fun _ _ => ?_) | refine Wp.l ?_ | (apply Wp.o; exact hx)) | ((with_reducible refine Wp.ift ?_ ?_); ((with_reducible first | apply bne_t | apply beq_t); omega)) | ((with_reducible refine Wp.iff ?_ ?_); first | (with_reducible rfl) | ((with_reducible apply beq_f); omega)) | (with_reducible refine Wp.go1 (by assumption) ?_))
   exact hB
  ·repeat (first | (with_reducible first | refine Wp.join1 (fun _ _ => ?_) | refine Wp.l ?_) | ((with_reducible refine Wp.ift ?_ ?_); first | (with_reducible rfl) | ((with_reducible apply beq_t); omega)) | (with_reducible first | (refine Wp.iff ?_ ?_; rfl) | refine Wp.go1 (by assumption) ?_))
   exact hB
theorem class_leave {B E : AHeap → R} (hen : at? u j = some 93) (hE : Wp (E H) Q) :
  Wp (lett (fun (t37 : Bool) (h69 : AHeap) => lett (fun (t43 : Bool) (h72 : AHeap) => ifB t43 (B h72) (E h72)) fun j43 => ifB t37 (j43 true h69) (obind (idxS u (j : Int)) fun t41 => lett ((t41 : Int) != 93) fun (t42 : Bool) => j43 t42 h69)) fun j37 => ifB false (j37 true H) (lett (((j : Nat) : Int) == (lenS u)) fun (t36 : Bool) => j37 t36 H)) Q := by
 have ll := lenS_nat u
 obtain ⟨hlt, h93⟩ := at?_some hen
 have hx := idxS_nat (l := u) hlt
 rw [h93] at hx
 repeat (first | (with_reducible first | refine Wp.join1 (fun _ _ => ?_) | refine Wp.l ?_ | (apply Wp.o; exact hx)) | ((with_reducible refine Wp.iff ?_ ?_); first | (with_reducible rfl) | ((with_reducible first | apply bne_f | apply beq_f); omega)) | (with_reducible refine Wp.go1 (by assumption) ?_))
 exact hE
theorem class_round {first : Bool} {self : Int → Bool → AHeap → R} {x z : RowT} (hu : u.length ≤ 1000000) (hn : 300 < n) (hi : j ≤ u.length) (hen : first = true ∨ at? u j ≠ some 93) (hw : WordsOk w) (hz : z.2.2.length = 6) (hz1 : z.1 = h.next) (M : Mem [] h H ((hb.next, TBools, boolsA w) :: x :: [z]))
  (hok : ∀ w' j' H', memberF u w j = .ok (w', j') → Mem [] h H' ((hb.next, TBools, boolsA w') :: x :: [z]) → Wp (self ((j' : Nat) : Int) false H') Q) (hbad : ∀ q H', memberF u w j = .error q → Tch [] h H' → Q (.ret (set3 (.error q))) H') :
  Wp (ref09_class_L1b (world n (d + 1)) n u h hb k25 self (j : Int) first H) Q := by
 obtain ⟨zb, zt, zc⟩ := z
 dsimp only at hz hz1
 subst hz1
 have ll := lenS_nat u
 unfold ref09_class_L1b
 refine class_enter hi hen ?_
 have hm1 := member_w (n := n) (d := d) (h := H) hi hu
 unfold memberF at hok hbad
 cases hb1 : memB2 u j with
 | error q =>
  rw [hb1] at hm1 hok hbad
  refine Wp.callN hm1 ?_
  unfold mem3
  repeat (first | (with_reducible first | refine Wp.l ?_ | (apply Wp.o; first | exact avInt_int _ _ | exact avBool_bool _ | exact extT_0 _ _ | exact extT_1 _ _ _ | exact extT_2 _ _ _ _) | (refine Wp.ift ?_ ?_; exact Bool.not_false)) | rw [newP_eq])
  refine Wp.sa2 M rfl hz rfl fun _ M2 => ?_
  refine Wp.lr2 M2 rfl ?_
  exact Wp.ret (hbad q _ rfl M2.tch)
 | ok cj =>
  obtain ⟨c, j1⟩ := cj
  obtain ⟨c1, c2, c3⟩ := memB2_ok hb1
  rw [hb1] at hm1 hok hbad
  dsimp only at hok hbad
  refine Wp.callN hm1 ?_
  unfold mem3
  have ew : IntKind.i64.wrap (c : Int) = (c : Int) := wrap_i64 (by omega) (by omega)
  by_cases h45 : at? u j1 = some 45
  ·rw [if_pos h45] at hok hbad
   obtain ⟨hlt1, hc45⟩ := at?_some h45
   have hx1 := idxS_nat (l := u) hlt1
   rw [hc45] at hx1
   have hm2 := member_w (n := n) (d := d) (h := H) (i := j1 + 1) (by omega) hu
   rw [show ((j1 + 1 : Nat) : Int) = (j1 : Int) + 1 by omega] at hm2
   cases hb2 : memB2 u (j1 + 1) with
   | error q =>
    rw [hb2] at hm2 hok hbad
    unfold mem3 at hm2
    repeat (first | (with_reducible first | refine Wp.join1 (fun _ _ => ?_) | refine Wp.join2 (fun _ _ => ?_)) | ((with_reducible refine Wp.lettw ?_ ?_ ?_); omega; omega) | (with_reducible first | refine Wp.l ?_ | (apply Wp.o; first | exact hx1 | exact avInt_int _ _ | exact avBool_bool _ | exact extT_0 _ _ | exact extT_1 _ _ _ | exact extT_2 _ _ _ _)) | ((with_reducible refine Wp.ift ?_ ?_); first | (with_reducible exact Bool.not_false) | ((with_reducible first | apply decide_eq_true | apply beq_t); omega)) | (with_reducible first | (refine Wp.iff ?_ ?_; exact Bool.not_true) | (apply Wp.callN; exact hm2) | refine Wp.go1 (by assumption) ?_) | rw [newP_eq])
    refine Wp.sa2 M rfl hz rfl fun _ M2 => ?_
    refine Wp.lr2 M2 rfl ?_
    exact Wp.ret (hbad q _ rfl M2.tch)
   | ok ek =>
    obtain ⟨e, k⟩ := ek
    obtain ⟨d1, d2, d3⟩ := memB2_ok hb2
    rw [hb2] at hm2 hok hbad
    dsimp only at hok hbad
    unfold mem3 at hm2
    by_cases hlt : e < c
    ·rw [if_pos hlt] at hok hbad
     repeat (first | (with_reducible first | refine Wp.join1 (fun _ _ => ?_) | refine Wp.join2 (fun _ _ => ?_)) | ((with_reducible refine Wp.lettw ?_ ?_ ?_); omega; omega) | (with_reducible first | refine Wp.l ?_ | (apply Wp.o; first | exact hx1 | exact avInt_int _ _ | exact avBool_bool _ | exact extT_0 _ _ | exact extT_1 _ _ _ | exact extT_2 _ _ _ _)) | ((with_reducible refine Wp.ift ?_ ?_); ((with_reducible first | apply decide_eq_true | apply beq_t); omega)) | (with_reducible first | (refine Wp.iff ?_ ?_; exact Bool.not_true) | (apply Wp.callN; exact hm2) | refine Wp.go1 (by assumption) ?_) | rw [newP_eq])
     refine Wp.sa2 M rfl hz rfl fun _ M2 => ?_
     refine Wp.lr2 M2 rfl ?_
     have := hbad (k - 1) _ rfl M2.tch
     rw [set3] at this
     rw [show ((k - 1 : Nat) : Int) = (k : Int) - 1 by omega] at this
     exact Wp.ret this
    ·rw [if_neg hlt] at hok hbad
     repeat (first | (with_reducible first | refine Wp.join0 (fun _ _ => ?_) | refine Wp.join1 (fun _ _ => ?_) | refine Wp.join2 (fun _ _ => ?_)) | ((with_reducible refine Wp.lettw ?_ ?_ ?_); omega; omega) | (with_reducible first | refine Wp.l ?_ | (apply Wp.o; first | exact hx1 | exact avInt_int _ _ | exact avBool_bool _ | exact extT_0 _ _ | exact extT_1 _ _ _ | exact extT_2 _ _ _ _)) | ((with_reducible refine Wp.ift ?_ ?_); ((with_reducible first | apply decide_eq_true | apply beq_t); omega)) | ((with_reducible refine Wp.iff ?_ ?_); first | (with_reducible exact Bool.not_true) | ((with_reducible apply decide_eq_false); omega)) | (with_reducible first | (apply Wp.callN; exact hm2) | (first | refine Wp.go1 (by assumption) ?_ | refine Wp.go2 (by assumption) ?_)))
     rename_i k108 ek108
     have eh : (e : Int) = ((c + (e + 1 - c) : Nat) - 1 : Int) := by omega
     rw [eh]
     refine bool_loop (e + 1 - c) n c w H (by omega) (by omega) hw M fun H' M2 => ?_
     refine Wp.go0 ek108 ?_
     exact hok _ _ H' rfl M2
  ·rw [if_neg h45] at hok hbad
   rcases Nat.lt_or_ge j1 u.length with hlt1 | hge1
   ·have hx1 := idxS_nat (l := u) hlt1
    rw [at?_lt hlt1] at h45
    have hc45 : (u[j1]).toNat ≠ 45 := fun hh => h45 (by rw [hh])
    have e45 : (((u[j1]).toNat : Int) == 45) = false := beq_f (by omega)
    repeat (first | (with_reducible first | refine Wp.join0 (fun _ _ => ?_) | refine Wp.join1 (fun _ _ => ?_) | refine Wp.join2 (fun _ _ => ?_)) | ((with_reducible refine Wp.lettw ?_ ?_ ?_); omega; omega) | (with_reducible first | refine Wp.l ?_ | (apply Wp.o; first | exact hx1 | exact avInt_int _ _ | exact avBool_bool _ | exact extT_0 _ _ | exact extT_1 _ _ _ | exact extT_2 _ _ _ _)) | ((with_reducible refine Wp.ift ?_ ?_); ((with_reducible first | apply decide_eq_true | apply beq_t); omega)) | (with_reducible first | (refine Wp.iff ?_ ?_; first | assumption | exact Bool.not_true) | (first | refine Wp.go1 (by assumption) ?_ | refine Wp.go2 (by assumption) ?_)))
    rename_i k108 ek108
    refine Wp.eqx (y := ref09_class_L2 hb ((c + 1 : Nat) - 1 : Int) k108 n (c : Int) H) (by rw [show ((c + 1 : Nat) - 1 : Int) = (c : Int) by omega]) ?_
    refine bool_loop 1 n c w H (by omega) (by omega) hw M fun H' M2 => ?_
    refine Wp.go0 ek108 ?_
    exact hok _ _ H' rfl M2
   ·repeat (first | (with_reducible first | refine Wp.join0 (fun _ _ => ?_) | refine Wp.join1 (fun _ _ => ?_) | refine Wp.join2 (fun _ _ => ?_)) | ((with_reducible refine Wp.lettw ?_ ?_ ?_); omega; omega) | (with_reducible first | refine Wp.l ?_ | (apply Wp.o; first | exact avInt_int _ _ | exact avBool_bool _ | exact extT_0 _ _ | exact extT_1 _ _ _ | exact extT_2 _ _ _ _)) | ((with_reducible refine Wp.iff ?_ ?_); first | (with_reducible first | rfl | exact Bool.not_true) | ((with_reducible apply decide_eq_false); omega)) | (with_reducible first | refine Wp.go1 (by assumption) ?_ | refine Wp.go2 (by assumption) ?_))
    rename_i k108 ek108
    refine Wp.eqx (y := ref09_class_L2 hb ((c + 1 : Nat) - 1 : Int) k108 n (c : Int) H) (by rw [show ((c + 1 : Nat) - 1 : Int) = (c : Int) by omega]) ?_
    refine bool_loop 1 n c w H (by omega) (by omega) hw M fun H' M2 => ?_
    refine Wp.go0 ek108 ?_
    exact hok _ _ H' rfl M2
theorem class_loop {x z : RowT} (hu : u.length ≤ 1000000) (hn : 300 < n) (hz : z.2.2.length = 6) (hz1 : z.1 = h.next) {r : Except Nat (List Nat × Nat)} (k : LoopP u w j r) : WordsOk w → j ≤ u.length → ∀ {f : Nat} {H : AHeap}, u.length - j < f → Mem [] h H ((hb.next, TBools, boolsA w) :: x :: [z]) →
  (∀ w' j' H', r = .ok (w', j' + 1) → j' < u.length → WordsOk w' → Mem [] h H' ((hb.next, TBools, boolsA w') :: x :: [z]) → Wp (k25 ((j' : Nat) : Int) H') Q) → (∀ q H', r = .error q → Tch [] h H' → Q (.ret (set3 (.error q))) H') →
  Wp (ref09_class_L1 (world n (d + 1)) n u h hb k25 f (j : Int) false H) Q := by
 induction k with
 | done ht =>
  intro hw hi f H hf M hok hbad
  obtain ⟨hlt, _⟩ := at?_some ht
  cases f with
  | zero => omega
  | succ f =>
   rw [ref09_class_L1_s]
   unfold ref09_class_L1b
   exact class_leave ht (hok _ _ H rfl hlt hw M)
 | bad ht hm =>
  intro hw hi f H hf M hok hbad
  cases f with
  | zero => omega
  | succ f =>
   rw [ref09_class_L1_s]
   refine class_round hu hn hi (.inr ht) hw hz hz1 M (fun w' j' H' e => ?_) (fun q H' e t => ?_)
   ·rw [hm] at e
    cases e
   ·rw [hm] at e
    cases e
    exact hbad _ H' rfl t
 | more ht hm m ih =>
  intro hw hi f H hf M hok hbad
  cases f with
  | zero => omega
  | succ f =>
   rw [ref09_class_L1_s]
   refine class_round hu hn hi (.inr ht) hw hz hz1 M (fun w' j' H' e M2 => ?_) (fun q H' e t => ?_)
   ·rw [hm] at e
    cases e
    obtain ⟨m1, m2, m3⟩ := memberF_ok hw hm
    exact ih m1 m3 (by omega) M2 hok hbad
   ·rw [hm] at e
    cases e
end
theorem set3_scal (r : Except Nat (List Nat × Nat)) : (set3 r).scal = true := by
 cases r with
 | error q => rfl
 | ok wj =>
  obtain ⟨w, j⟩ := wj
  show ((AV.agg (nodeC 2 w .nsl)).scal && _) = true
  rw [nodeC_scal]
  rfl
section
variable {n d i j : Nat} {h H h0 hb hx : AHeap} {u : Bytes} {Q : ARes → AHeap → Prop} {S : List Nat} {ys : List RowT} {w : List Nat} {k25 : Int → AHeap → R}
theorem class_run {x z : RowT} (hu : u.length ≤ 1000000) (hn : 300 < n) (hn2 : u.length + 5 < n) (hi : i ≤ u.length) (hz : z.2.2.length = 6) (hz1 : z.1 = h.next) {r : Except Nat (List Nat × Nat)} (k : SetP u i r) (M : Mem [] h H ((hb.next, TBools, boolsA zeroW) :: x :: [z]))
  (hok : ∀ w' j' H', othersR u i (.ok (w', j' + 1)) = r → j' < u.length → WordsOk w' → Mem [] h H' ((hb.next, TBools, boolsA w') :: x :: [z]) → Wp (k25 ((j' : Nat) : Int) H') Q) (hbad : ∀ q H', r = .error q → Tch [] h H' → Q (.ret (set3 (.error q))) H') :
  Wp (ref09_class_L1 (world n (d + 1)) n u h hb k25 n ((setB u i : Nat) : Int) true H) Q := by
 obtain ⟨f, hf⟩ : ∃ f, n = f + 1 := ⟨n - 1, by omega⟩
 obtain ⟨s1, s2⟩ := setB_bnd (a := u) hi
 have key : ∀ self : Int → Bool → AHeap → R, (∀ w' j' H', memberF u zeroW (setB u i) = .ok (w', j') → Mem [] h H' ((hb.next, TBools, boolsA w') :: x :: [z]) → Wp (self ((j' : Nat) : Int) false H') Q) → (∀ q H', memberF u zeroW (setB u i) = .error q → Tch [] h H' → Q (.ret (set3 (.error q))) H') → Wp (ref09_class_L1b (world n (d + 1)) n u h hb k25 self ((setB u i : Nat) : Int) true H) Q := fun self => class_round hu hn s2 (.inl rfl) zeroW_ok hz hz1 M
 have e : ref09_class_L1 (world n (d + 1)) n u h hb k25 n ((setB u i : Nat) : Int) true H = ref09_class_L1b (world n (d + 1)) n u h hb k25 (ref09_class_L1 (world n (d + 1)) n u h hb k25 f) ((setB u i : Nat) : Int) true H := by
  conv => lhs; arg 7; rw [hf]
  rw [ref09_class_L1_s]
 rw [e]
 cases k with
 | bad hm =>
  refine key _ (fun w' j' H' e M2 => ?_) fun q H' e t => ?_
  ·rw [hm] at e
   cases e
  ·rw [hm] at e
   cases e
   exact hbad _ H' rfl t
 | set hm m =>
  rename_i w1 j1 r1
  obtain ⟨m1, m2, m3⟩ := memberF_ok zeroW_ok hm
  refine key _ (fun w' j' H' e M2 => ?_) fun q H' e t => ?_
  ·rw [hm] at e
   cases e
   refine class_loop hu hn hz hz1 m m1 m3 (by omega) M2 (fun w2 j2 H2 e2 => ?_) fun q H2 e2 t => ?_
   ·subst e2
    exact hok w2 j2 H2 rfl
   ·subst e2
    exact hbad q H2 rfl t
  ·rw [hm] at e
   cases e
theorem class_w (hu : u.length ≤ 1000000) (hn : 300 < n) (hn2 : u.length + 5 < n) (hi : i ≤ u.length) {r : Except Nat (List Nat × Nat)} (k : SetP u i r) : world n (d + 2) 86 [strA u, .int .i64 (i : Int)] h = some (.ret (set3 r), h) := by
 apply Wp.eq
 rw [w_ref09_class]
 suffices hK : Wp (ref09_class (world n (d + 1)) n u i h) fun v h' => v = .ret (set3 r) ∧ Tch [] h h' from Wp.gc (hK.mono fun v h' ⟨e, t⟩ => ⟨t.above, by rw [e]; exact set3_scal r, e, rfl⟩)
 unfold ref09_class
 have Mx := Mem.nil [] h
 have ll := lenS_nat u
 -- what comes behind the members
 have fin : ∀ {nt : Bool} {hb hx : AHeap} {w' : List Nat} {j' : Nat} {H' : AHeap} {xc : List AV}, nt = decide (at? u i = some 94) → othersR u i (.ok (w', j' + 1)) = r → j' < u.length → WordsOk w' → xc = nodeC 2 zeroW .nsl → Mem [] h H' ((hb.next, TBools, boolsA w') :: (hx.next, TNode, xc) :: [(h.next, TNode, nodeC 0 zeroW .nsl)]) →
   Wp (ref09_class_L0 hx nt hb (fun h32 => obind (ldRow h32 6 (newP hx)) fun t116 => lett (IntKind.i64.wrap (((j' : Nat) : Int) + 1)) fun (t118 : Int) => obind (stRow h32 6 t116 (newP h)) fun h36 => obind (ldRow h36 6 (newP h)) fun w4 => some (.ret (.tup [.agg w4, .int .i64 t118, .bool true]), h36)) n 0 H') fun v h' => v = .ret (set3 r) ∧ Tch [] h h' := by
  intro nt hb hx w' j' H' xc hnt hr hj hw exc M
  subst exc
  refine pick_loop (k := 0) (v := zeroW) hw 256 n H' (by omega) rfl zeroW_ok (fun c hc => ?_) M fun H2 v hv hbit M2 => ?_
  ·rw [inW_zero, decide_eq_false (Nat.not_lt_zero _), Bool.false_and]
  have ev : set3 r = .tup [.agg (nodeC 2 v .nsl), .int .i64 (((j' : Nat) : Int) + 1), .bool true] := by
   rw [← hr]
   unfold othersR
   rw [set3]
   have : v = if at? u i = some 94 then othersW w' else w' := by
    by_cases h94 : at? u i = some 94
    ·rw [if_pos h94]
     rw [decide_eq_true h94] at hnt
     subst hnt
     refine inW_ext hv (othersW_ok hw) fun c hc => ?_
     rw [hbit c hc, inW_others hw hc]
     cases inW w' c <;> rfl
    ·rw [if_neg h94]
     rw [decide_eq_false h94] at hnt
     subst hnt
     refine inW_ext hv hw fun c hc => ?_
     rw [hbit c hc]
     cases inW w' c <;> rfl
   rw [this]
   rfl
  rw [ev]
  rw [newP_eq, newP_eq]
  have hl := nodeC_len (kv := .nsl) (op := 2) hv
  refine Wp.lr1 M2 hl ?_
  repeat (((with_reducible refine Wp.lettw ?_ ?_ ?_); omega; omega))
  refine Wp.sa2 M2 hl rfl (nodeC_one rfl) fun _ M3 => ?_
  refine Wp.lr2 M3 hl ?_
  exact Wp.ret ⟨rfl, M3.tch⟩
 by_cases h94 : at? u i = some 94
 ·obtain ⟨hlt, h94b⟩ := at?_some h94
  have hx := idxS_nat (l := u) hlt
  rw [h94b] at hx
  have es : ((i : Nat) : Int) + 1 = ((setB u i : Nat) : Int) := by
   unfold setB
   rw [if_pos h94]
   omega
  repeat (first | ((with_reducible apply Wp.sa0 Mx); rfl; rfl; (rfl); clear Mx; intro _ Mx) | ((with_reducible apply Wp.mnew Mx); clear Mx; intro _ Mx) | (with_reducible refine Wp.join1 (fun _ _ => ?_)) | ((with_reducible refine Wp.lettw ?_ ?_ ?_); omega; omega) | (with_reducible first | refine Wp.l ?_ | (apply Wp.o; exact hx)) | ((with_reducible refine Wp.ift ?_ ?_); ((with_reducible first | apply decide_eq_true | apply beq_t); omega)) | (with_reducible refine Wp.go1 (by assumption) ?_) | rw [newP_eq])
  rename_i k25 ek25
  rw [← bools0] at Mx
  rw [es]
  refine class_run hu hn hn2 hi rfl rfl k Mx (fun w' j' H' hr hj hw M2 => ?_) fun q H' e t => ⟨by rw [e], t⟩
  refine Wp.go1 ek25 ?_
  exact fin (by rw [decide_eq_true h94]; rfl) hr hj hw rfl M2
 ·have es : ((i : Nat) : Int) = ((setB u i : Nat) : Int) := by
   unfold setB
   rw [if_neg h94]
  rcases Nat.lt_or_ge i u.length with hlt | hge
  ·have hx := idxS_nat (l := u) hlt
   have hne : (u[i]).toNat ≠ 94 := fun hh => h94 (by rw [at?_lt hlt, hh])
   have e94 : (((u[i]).toNat : Int) == 94) = false := beq_f (by omega)
   repeat (first | ((with_reducible apply Wp.sa0 Mx); rfl; rfl; (rfl); clear Mx; intro _ Mx) | ((with_reducible apply Wp.mnew Mx); clear Mx; intro _ Mx) | (with_reducible first | refine Wp.join1 (fun _ _ => ?_) | refine Wp.l ?_ | (apply Wp.o; exact hx)) | ((with_reducible refine Wp.ift ?_ ?_); ((with_reducible first | apply decide_eq_true | apply beq_t); omega)) | (with_reducible first | (refine Wp.iff ?_ ?_; assumption) | refine Wp.go1 (by assumption) ?_) | rw [newP_eq])
   rename_i k25 ek25
   rw [← bools0] at Mx
   have ek26 := ek25
   rw [es]
   refine class_run hu hn hn2 hi rfl rfl k Mx (fun w' j' H' hr hj hw M2 => ?_) fun q H' e t => ⟨by rw [e], t⟩
   refine Wp.go1 ek26 ?_
   exact fin (by rw [decide_eq_false h94]; exact e94) hr hj hw rfl M2
  ·repeat (first | ((with_reducible apply Wp.sa0 Mx); rfl; rfl; (rfl); clear Mx; intro _ Mx) | ((with_reducible apply Wp.mnew Mx); clear Mx; intro _ Mx) | (with_reducible first | refine Wp.join1 (fun _ _ => ?_) | refine Wp.l ?_) | ((with_reducible refine Wp.iff ?_ ?_); first | (with_reducible rfl) | ((with_reducible apply decide_eq_false); omega)) | (with_reducible refine Wp.go1 (by assumption) ?_) | rw [newP_eq])
   rename_i k25 ek25
   rw [← bools0] at Mx
   rw [es]
   refine class_run hu hn hn2 hi rfl rfl k Mx (fun w' j' H' hr hj hw M2 => ?_) fun q H' e t => ⟨by rw [e], t⟩
   refine Wp.go1 ek25 ?_
   exact fin (by rw [decide_eq_false h94]) hr hj hw rfl M2
def RawN (h : AHeap) : Res → ARes → AHeap → Prop
 | .ok (t, j), v, h' => ∃ c T, v = .ret (.tup [.agg c, .int .i64 (j : Int), .bool true]) ∧ NodeT t c T ∧ Mem [] h h' T
 | .error q, v, h' => v = .ret (.tup [.agg (nodeC 0 zeroW .nsl), .int .i64 (q : Int), .bool false]) ∧ Tch [] h h'
def OutN (h : AHeap) (x : R) : Res → Prop
 | .ok (t, j) => ∃ c T h', x = some (.ret (.tup [.agg c, .int .i64 (j : Int), .bool true]), h') ∧ NodeT t c T ∧ Mem [] h h' T
 | .error q => x = some (.ret (.tup [.agg (nodeC 0 zeroW .nsl), .int .i64 (q : Int), .bool false]), h)
theorem OutN.gc {r : Res} {x : R} (k : Wp x (RawN h r)) : OutN h (gcR h x) r := by
 cases r with
 | error q =>
  apply Wp.eq
  exact Wp.gc (k.mono fun v h' ⟨e, t⟩ => ⟨t.above, by rw [e]; rfl, e, rfl⟩)
 | ok tj =>
  obtain ⟨t, j⟩ := tj
  obtain ⟨v, h', e, c, T, rfl, kt, M⟩ := k
  suffices hK : Wp (gcR h x) fun r h' => ∃ T, r = .ret (.tup [.agg c, .int .i64 (j : Int), .bool true]) ∧ NodeT t c T ∧ Mem [] h h' T by
   obtain ⟨_, h', e, T, rfl, k1, k2⟩ := hK
   exact ⟨c, T, h', e, k1, k2⟩
  refine Wp.gc2 ⟨_, h', e, ⟨T, rfl, kt, M⟩, fun _ hl => ?_⟩
  have h1 : AV.loL h.next c = true := by
   have : (AV.loL h.next c && (true && (true && AV.loL h.next []))) = true := hl
   rw [Bool.and_eq_true] at this
   exact this.1
  have hT : T = [] := kt.low (fun y hy => (M.row y hy).2.2.resolve_left (by simp)) h1
  subst hT
  exact ⟨[], rfl, kt, Mem.nil _ _⟩
theorem Wp.callOk {x : R} {t : Nd} {rs : List RowT} {k : AV → AHeap → R} (hx : OutN h x (.ok (t, j))) (M : Mem S h0 h rs) (hk : ∀ c T h', NodeT t c T → Mem S h0 h' (rs ++ T) → Wp (k (.tup [.agg c, .int .i64 (j : Int), .bool true]) h') Q) : Wp (callN x k) Q := by
 obtain ⟨c, T, h', e, kt, M'⟩ := hx
 exact Wp.callN e (hk c T h' kt (Mem.frameT (xs := []) (ys := []) M M'))
theorem Wp.callBad {x : R} {q : Nat} {k : AV → AHeap → R} (hx : OutN h x (.error q)) (hk : Wp (k (.tup [.agg (nodeC 0 zeroW .nsl), .int .i64 (q : Int), .bool false]) h) Q) : Wp (callN x k) Q := Wp.callN hx hk
end
noncomputable def bad3 (q : Nat) : AV := .tup [.agg (nodeC 0 zeroW .nsl), .int .i64 (q : Int), .bool false]
def AtomM (u : Bytes) (n i : Nat) (r : Res) : Prop := ∀ {D : Nat} {h : AHeap}, 3 * (u.length - i) + 5 ≤ D → memB TNode h.ex = false → OutN h (world n D 80 [strA u, .int .i64 (i : Int)] h) r
def RowM (u : Bytes) (n : Nat) (l : List Nd) (i : Nat) (r : Res) : Prop := ∀ {D f : Nat} {h H : AHeap} {kc : List (List AV)} {kv : AV} {T0 T1 : List RowT} {z : List AV} {k7 : Int → AV → AHeap → R} {Q : ARes → AHeap → Prop}, 3 * (u.length - i) + 5 ≤ D → u.length - i < f → GrowT TNode 6 kc kv T0 → KidsT l kc T1 → memB TNode h.ex = false → l.length ≤ i → z.length = 6 → Mem [] h H ((h.next, TNode, z) :: (T0 ++ T1)) →
 (∀ l' j kc kv T0 T1 H', r = .ok (joinN 3 l', j) → GrowT TNode 6 kc kv T0 → KidsT l' kc T1 → Mem [] h H' ((h.next, TNode, z) :: (T0 ++ T1)) → Wp (k7 ((j : Nat) : Int) kv H') Q) →
 (∀ q H', r = .error q → Tch [] h H' → Q (.ret (bad3 q)) H') → Wp (ref09_row_L0 (world n D) u h k7 f (i : Int) kv H) Q
def AltM (u : Bytes) (n : Nat) (l : List Nd) (i : Nat) (r : Res) : Prop := ∀ {D f : Nat} {h H : AHeap} {kc : List (List AV)} {kv : AV} {T0 T1 : List RowT} {z : List AV}, 3 * (u.length - i) + 6 ≤ D → u.length - i < f → GrowT TNode 6 kc kv T0 → KidsT l kc T1 → memB TNode h.ex = false → l.length ≤ i → z.length = 6 → Mem [] h H ((h.next, TNode, z) :: (T0 ++ T1)) →
 Wp (ref09_alts_L0 (world n D) u h f (i : Int) kv H) (RawN h r)
section
variable {n i j q : Nat} {u : Bytes} {l : List Nd} {r : Res} {t : Nd} {w : List Nat}
theorem row_call (hu : u.length ≤ 1000000) (hn2 : u.length + 5 < n) {D : Nat} {h : AHeap} (k : RowM u n [] i r) (hD : 3 * (u.length - i) + 6 ≤ D) (hx : memB TNode h.ex = false) : OutN h (world n D 67 [strA u, .int .i64 (i : Int)] h) r := by
 obtain ⟨D, rfl⟩ : ∃ D', D = D' + 1 := ⟨D - 1, by omega⟩
 rw [w_ref09_row]
 refine OutN.gc ?_
 unfold ref09_row
 refine Wp.mnew (Mem.nil [] h) fun h1 M1 => ?_
 ((with_reducible refine Wp.join2 (fun _ _ => ?_)))
 rename_i k7 ek7
 refine k (by omega) (by omega) (GrowT.nil _ _) .nil hx (Nat.zero_le _) rfl M1 (fun l' j kc kv T0 T1 H' hr g ks M2 => ?_) fun q H' hr ht => ?_
 ·subst hr
  refine Wp.go2 ek7 ?_
  obtain ⟨D, rfl⟩ : ∃ D', D = D' + 1 := ⟨D - 1, by omega⟩
  obtain ⟨c, T, h2, e2, kt, M3⟩ := Over_r (n := n) (d := D) 3 (xs := [_]) M2 g ks
  refine Wp.callN e2 (Wp.o (avAgg_agg _) ?_)
  rw [newP_eq]
  refine Wp.sa0 M3 kt.len rfl kt.one fun h3 M4 => ?_
  refine Wp.lr0 M4 kt.len ?_
  exact Wp.ret ⟨c, T, rfl, kt, M4.pop⟩
 ·subst hr
  exact ⟨rfl, ht⟩
theorem alt_call (hn2 : u.length + 5 < n) {D : Nat} {h : AHeap} (k : AltM u n [] i r) (hD : 3 * (u.length - i) + 7 ≤ D) (hx : memB TNode h.ex = false) : OutN h (world n D 43 [strA u, .int .i64 (i : Int)] h) r := by
 obtain ⟨D, rfl⟩ : ∃ D', D = D' + 1 := ⟨D - 1, by omega⟩
 rw [w_ref09_alts]
 refine OutN.gc ?_
 unfold ref09_alts
 refine Wp.mnew (Mem.nil [] h) fun h1 M1 => ?_
 exact k (by omega) (by omega) (GrowT.nil _ _) .nil hx (Nat.zero_le _) rfl M1
theorem alt_bad (hu : u.length ≤ 1000000) (hn2 : u.length + 5 < n) (k : RowM u n [] i (.error q)) : AltM u n l i (.error q) := by
 intro D f h H kc kv T0 T1 z hD hf g ks hx hl hz M
 obtain ⟨f, rfl⟩ : ∃ f', f = f' + 1 := ⟨f - 1, by omega⟩
 have hc := row_call hu hn2 (h := H) k hD (by rw [M.ex]; exact hx)
 rw [ref09_alts_L0_s]
 unfold ref09_alts_L0b
 refine Wp.callBad hc ?_
 have Mx := M
 have hb : (nodeC 0 zeroW .nsl).length = 6 := rfl
 repeat (first | (with_reducible apply Wp.o; first | exact avInt_int _ _ | exact avBool_bool _) | ((with_reducible apply Wp.sa0 Mx); rfl; rfl; (rfl); clear Mx; intro _ Mx) | ((with_reducible apply Wp.mnew Mx); clear Mx; intro _ Mx) | (with_reducible first | refine Wp.l ?_ | (apply Wp.o; first | exact avAgg_agg _ | exact extT_0 _ _ | exact extT_1 _ _ _ | exact extT_2 _ _ _ _) | (refine Wp.ift ?_ ?_; exact Bool.not_false)) | rw [newP_eq])
 refine Wp.sa1 Mx rfl hz rfl fun _ M2 => ?_
 refine Wp.lr1 M2 rfl ?_
 exact Wp.ret ⟨rfl, M2.tch⟩
theorem alt_step {D : Nat} {h H : AHeap} {kc : List (List AV)} {kv : AV} {T0 T1 : List RowT} {z : List AV} {Q : ARes → AHeap → Prop} (hu : u.length ≤ 1000000) (hn2 : u.length + 5 < n) (k : RowM u n [] i (.ok (t, j))) (hD : 3 * (u.length - i) + 6 ≤ D) (g : GrowT TNode 6 kc kv T0) (ks : KidsT l kc T1) (hx : memB TNode h.ex = false) (hl : l.length ≤ 1000000) (M : Mem [] h H ((h.next, TNode, z) :: (T0 ++ T1))) (self : Int → AV → AHeap → R)
  (hk : ∀ kc' kv' T0' T1' H', GrowT TNode 6 kc' kv' T0' → KidsT (l ++ [t]) kc' T1' → Mem [] h H' ((h.next, TNode, z) :: (T0' ++ T1')) → Wp (lett (((j : Nat) : Int) == (lenS u)) fun (t29 : Bool) =>
  lett (fun (t35 : Bool) (h_39 : AHeap) =>
   ifB t35
   (
    callN (world n D 65 [.int .i64 4, kv'] h_39) fun r37 h_43 =>
    obind (avAgg r37) fun t37 =>
    obind (stRow h_43 6 t37 (newP h)) fun h_46 =>
    obind (ldRow h_46 6 (newP h)) fun w4_49 =>
    some (.ret (.tup [.agg w4_49, .int .i64 ((j : Nat) : Int), .bool true]), h_46))
   (
    lett (IntKind.i64.wrap (((j : Nat) : Int) + 1)) fun (t40 : Int) =>
    self t40 kv' h_39)) fun j35 =>
  ifB t29
  (
   j35 true H')
  (
   obind (idxS u ((j : Nat) : Int)) fun t33 =>
   lett ((t33 : Int) != 124) fun (t34 : Bool) =>
   j35 t34 H')) Q) : Wp (ref09_alts_L0b (world n D) u h self (i : Int) kv H) Q := by
 have hc := row_call hu hn2 (h := H) k hD (by rw [M.ex]; exact hx)
 unfold ref09_alts_L0b
 refine Wp.callOk hc M fun c T h2 kt M2 => ?_
 refine Wp.o (extT_0 _ _) (Wp.o (avAgg_agg _) (Wp.o (extT_1 _ _ _) (Wp.o (avInt_int _ _) (Wp.o (extT_2 _ _ _ _) (Wp.o (avBool_bool _) ?_)))))
 refine Wp.mnew M2 fun h3 M3 => ?_
 rw [newP_eq, newP_eq]
 refine Wp.sa0 M3 kt.len rfl kt.one fun h4 M4 => ?_
 refine Wp.l (Wp.iff rfl ?_)
 refine Wp.lr0 M4 kt.len ?_
 refine Wp.nodeGrow M4 g ks kt hx (by omega) fun kv' h' T0' g' ks' M5 => ?_
 have := hk _ kv' T0' _ h' g' ks' M5.pop
 rw [newP_eq] at this
 exact this
theorem alt_last (hu : u.length ≤ 1000000) (hn2 : u.length + 5 < n) (hj : j ≤ u.length) (k : RowM u n [] i (.ok (t, j))) (ne : at? u j ≠ some 124) (hi : i ≤ u.length) : AltM u n l i (.ok (joinN 4 (l ++ [t]), j)) := by
 intro D f h H kc kv T0 T1 z hD hf g ks hx hl hz M
 obtain ⟨f, rfl⟩ : ∃ f', f = f' + 1 := ⟨f - 1, by omega⟩
 rw [ref09_alts_L0_s]
 refine alt_step hu hn2 k hD g ks hx (by omega) M _ fun kc' kv' T0' T1' H' g' ks' M2 => ?_
 have ll := lenS_nat u
 obtain ⟨D, rfl⟩ : ∃ D', D = D' + 1 := ⟨D - 1, by omega⟩
 obtain ⟨c, T, h2, e2, kt, M3⟩ := Over_r (n := n) (d := D) 4 (xs := [_]) M2 g' ks'
 rcases Nat.lt_or_ge j u.length with hlt | hge
 ·have hx1 := idxS_nat (l := u) hlt
  rw [at?_lt hlt] at ne
  have hne : (u[j]).toNat ≠ 124 := fun hh => ne (by rw [hh])
  repeat (first | (with_reducible first | refine Wp.join1 (fun _ _ => ?_) | refine Wp.l ?_ | (apply Wp.o; exact hx1)) | ((with_reducible refine Wp.ift ?_ ?_); ((with_reducible first | apply bne_t | apply beq_t); omega)) | ((with_reducible refine Wp.iff ?_ ?_; apply beq_f); omega) | (with_reducible refine Wp.go1 (by assumption) ?_) | rw [newP_eq])
  refine Wp.callN e2 (Wp.o (avAgg_agg _) ?_)
  refine Wp.sa0 M3 kt.len hz kt.one fun h3 M4 => ?_
  refine Wp.lr0 M4 kt.len ?_
  exact Wp.ret ⟨c, T, rfl, kt, M4.pop⟩
 ·repeat (first | (with_reducible first | refine Wp.join1 (fun _ _ => ?_) | refine Wp.l ?_) | ((with_reducible refine Wp.ift ?_ ?_); first | (with_reducible rfl) | ((with_reducible apply beq_t); omega)) | (with_reducible refine Wp.go1 (by assumption) ?_) | rw [newP_eq])
  refine Wp.callN e2 (Wp.o (avAgg_agg _) ?_)
  refine Wp.sa0 M3 kt.len hz kt.one fun h3 M4 => ?_
  refine Wp.lr0 M4 kt.len ?_
  exact Wp.ret ⟨c, T, rfl, kt, M4.pop⟩
theorem alt_more (hu : u.length ≤ 1000000) (hn2 : u.length + 5 < n) (hij : i ≤ j) (k : RowM u n [] i (.ok (t, j))) (ne : at? u j = some 124) (hi : i ≤ u.length) (m : AltM u n (l ++ [t]) (j + 1) r) : AltM u n l i r := by
 intro D f h H kc kv T0 T1 z hD hf g ks hx hl hz M
 obtain ⟨f, rfl⟩ : ∃ f', f = f' + 1 := ⟨f - 1, by omega⟩
 rw [ref09_alts_L0_s]
 refine alt_step hu hn2 k hD g ks hx (by omega) M _ fun kc' kv' T0' T1' H' g' ks' M2 => ?_
 have ll := lenS_nat u
 obtain ⟨hlt, h124⟩ := at?_some ne
 have hx1 := idxS_nat (l := u) hlt
 rw [h124] at hx1
 repeat (first | (with_reducible refine Wp.join1 (fun _ _ => ?_)) | ((with_reducible refine Wp.lettw ?_ ?_ ?_); omega; omega) | (with_reducible first | refine Wp.l ?_ | (apply Wp.o; exact hx1)) | ((with_reducible refine Wp.iff ?_ ?_); ((with_reducible first | apply bne_f | apply beq_f); omega)) | (with_reducible refine Wp.go1 (by assumption) ?_))
 rw [show (j : Int) + 1 = ((j + 1 : Nat) : Int) by omega]
 exact m (by omega) (by omega) g' ks' hx (by simp; omega) hz M2
theorem row_stop (hi : i ≤ u.length) (s : stops u i) : RowM u n l i (.ok (joinN 3 l, i)) := by
 intro D f h H kc kv T0 T1 z k7 Q hD hf g ks hx hl hz M hok hbad
 obtain ⟨f, rfl⟩ : ∃ f', f = f' + 1 := ⟨f - 1, by omega⟩
 have hfin := hok l i kc kv T0 T1 H rfl g ks M
 have ll := lenS_nat u
 rw [ref09_row_L0_s]
 unfold ref09_row_L0b
 rcases s with hc | hc | hc
 ·have := at?_none hc hi
  repeat (first | (with_reducible first | refine Wp.join1 (fun _ _ => ?_) | refine Wp.l ?_) | ((with_reducible refine Wp.iff ?_ ?_); first | (with_reducible rfl) | ((with_reducible apply decide_eq_false); omega)) | (with_reducible refine Wp.go1 (by assumption) ?_))
  exact hfin
 ·obtain ⟨hlt, h124⟩ := at?_some hc
  have hx1 := idxS_nat (l := u) hlt
  rw [h124] at hx1
  repeat (first | (with_reducible first | refine Wp.join1 (fun _ _ => ?_) | refine Wp.l ?_ | (apply Wp.o; exact hx1)) | ((with_reducible refine Wp.ift ?_ ?_); ((with_reducible first | apply decide_eq_true | apply bne_t); omega)) | ((with_reducible refine Wp.iff ?_ ?_); first | (with_reducible rfl) | ((with_reducible apply bne_f); omega)) | (with_reducible refine Wp.go1 (by assumption) ?_))
  exact hfin
 ·obtain ⟨hlt, h41⟩ := at?_some hc
  have hx1 := idxS_nat (l := u) hlt
  rw [h41] at hx1
  repeat (first | (with_reducible first | refine Wp.join1 (fun _ _ => ?_) | refine Wp.l ?_ | (apply Wp.o; exact hx1)) | ((with_reducible refine Wp.ift ?_ ?_); ((with_reducible first | apply decide_eq_true | apply bne_t); omega)) | ((with_reducible refine Wp.iff ?_ ?_; apply bne_f); omega) | (with_reducible refine Wp.go1 (by assumption) ?_))
  exact hfin
theorem go_in (s : ¬ stops u i) : ∃ h : i < u.length, (u[i]).toNat ≠ 124 ∧ (u[i]).toNat ≠ 41 := by
 rcases Nat.lt_or_ge i u.length with h | h
 ·refine ⟨h, fun hh => s (.inr (.inl ?_)), fun hh => s (.inr (.inr ?_))⟩
  ·rw [at?_lt h, hh]
  ·rw [at?_lt h, hh]
 ·exact absurd (.inl (at?_ge h)) s
theorem row_bad (s : ¬ stops u i) (k : AtomM u n i (.error q)) : RowM u n l i (.error q) := by
 intro D f h H kc kv T0 T1 z k7 Q hD hf g ks hx hl hz M hok hbad
 obtain ⟨f, rfl⟩ : ∃ f', f = f' + 1 := ⟨f - 1, by omega⟩
 have ll := lenS_nat u
 obtain ⟨hlt, n1, n2⟩ := go_in s
 have hx1 := idxS_nat (l := u) hlt
 have e41 : (((u[i]).toNat : Int) != 41) = true := bne_t (by omega)
 rw [ref09_row_L0_s]
 unfold ref09_row_L0b
 repeat (first | (with_reducible first | refine Wp.join1 (fun _ _ => ?_) | refine Wp.l ?_ | (apply Wp.o; exact hx1)) | ((with_reducible refine Wp.ift ?_ ?_); first | (with_reducible assumption) | ((with_reducible first | apply decide_eq_true | apply bne_t); omega)) | (with_reducible refine Wp.go1 (by assumption) ?_) | rw [newP_eq])
 refine Wp.callBad (k hD (by rw [M.ex]; exact hx)) ?_
 have Mx := M
 repeat (first | (with_reducible apply Wp.o; first | exact avInt_int _ _ | exact avBool_bool _) | ((with_reducible apply Wp.sa0 Mx); rfl; rfl; (rfl); clear Mx; intro _ Mx) | ((with_reducible apply Wp.mnew Mx); clear Mx; intro _ Mx) | (with_reducible first | refine Wp.l ?_ | (apply Wp.o; first | exact avAgg_agg _ | exact extT_0 _ _ | exact extT_1 _ _ _ | exact extT_2 _ _ _ _) | (refine Wp.ift ?_ ?_; exact Bool.not_false)) | rw [newP_eq])
 refine Wp.sa1 Mx rfl hz rfl fun _ M2 => ?_
 refine Wp.lr1 M2 rfl ?_
 exact Wp.ret (hbad q _ rfl M2.tch)
end
theorem sign_pos {u : Bytes} {j : Nat} (h : signAt u j ≠ 0) : ∃ c, at? u j = some c ∧ ((c = 42 ∧ signAt u j = 5) ∨ (c = 43 ∧ signAt u j = 6) ∨ (c = 63 ∧ signAt u j = 7)) := by
 unfold signAt at h ⊢
 cases hc : at? u j with
 | none =>
  rw [hc] at h
  exact absurd rfl h
 | some c =>
  rw [hc] at h
  refine ⟨c, rfl, ?_⟩
  dsimp only at h ⊢
  unfold signOp at h ⊢
  split at h
  ·exact .inl ⟨rfl, rfl⟩
  ·exact .inr (.inl ⟨rfl, rfl⟩)
  ·exact .inr (.inr ⟨rfl, rfl⟩)
  ·exact absurd rfl h
theorem sign_zero {u : Bytes} {j : Nat} (h : signAt u j = 0) {c : Nat} (hc : at? u j = some c) : c ≠ 42 ∧ c ≠ 43 ∧ c ≠ 63 := by
 rw [signAt_some hc] at h
 refine ⟨fun hh => ?_, fun hh => ?_, fun hh => ?_⟩ <;> subst hh <;> exact absurd h (by decide)
section
variable {n i j q : Nat} {u : Bytes} {l : List Nd} {r : Res} {t : Nd} {w : List Nat}
theorem row_step {D : Nat} {h H : AHeap} {kv : AV} {T0 T1 : List RowT} {z : List AV} {Q : ARes → AHeap → Prop} {k7 : Int → AV → AHeap → R} (s : ¬ stops u i) (k : AtomM u n i (.ok (t, j))) (hD : 3 * (u.length - i) + 5 ≤ D) (hx : memB TNode h.ex = false) (M : Mem [] h H ((h.next, TNode, z) :: (T0 ++ T1))) (self : Int → AV → AHeap → R)
  (hk : ∀ c T q H', NodeT t c T → Mem [] h H' ((q, TNode, c) :: (((h.next, TNode, z) :: (T0 ++ T1)) ++ T)) → Wp (lett (decide (((j : Nat) : Int) < (lenS u))) fun (t43 : Bool) =>
     lett (fun (t11 : Int) (h_58 : AHeap) =>
      lett (decide (t11 > 0)) fun (t54 : Bool) =>
      lett (fun (t1_63 : Int) (h_64 : AHeap) =>
       obind (ldRow h_64 6 (.ptr q 0)) fun t62 =>
       outK (bldSl Try.prog h_64 TNodes 1 [(0, .agg t62)]) fun v63 h_66 =>
       outK (opAppend Try.prog h_66 TNodes TNodes kv v63) fun v64 h_68 =>
       self t1_63 v64 h_68) fun k62 =>
      ifB t54
      (
       obind (ldRow h_58 6 (.ptr q 0)) fun t56 =>
       outK (bldSl Try.prog h_58 TNodes 1 [(0, .agg t56)]) fun v57 h_72 =>
       obind (bldS Try.prog TNode [(0, .int .i64 t11), (2, v57)]) fun t58 =>
       obind (stRow h_72 6 t58 (.ptr q 0)) fun h_75 =>
       lett (IntKind.i64.wrap (((j : Nat) : Int) + 1)) fun (t60 : Int) =>
       k62 t60 h_75)
      (
       k62 ((j : Nat) : Int) h_58)) fun k57 =>
     ifB t43
     (
      obind (idxS u ((j : Nat) : Int)) fun t46 =>
      lett ((t46 : Int) == 42) fun (t48 : Bool) =>
      lett (fun (t11_84 : Int) (h_85 : AHeap) =>
       k57 t11_84 h_85) fun k83 =>
      ifB t48
      (
       k83 5 H')
      (
       lett ((t46 : Int) == 43) fun (t50 : Bool) =>
       lett (fun (t11_89 : Int) (h_90 : AHeap) =>
        k83 t11_89 h_90) fun k88 =>
       ifB t50
       (
        k88 6 H')
       (
        lett ((t46 : Int) == 63) fun (t52 : Bool) =>
        lett (fun (t11_94 : Int) (h_95 : AHeap) =>
         k88 t11_94 h_95) fun k93 =>
        ifB t52
        (
         k93 7 H')
        (
         k93 0 H'))))
     (
      k57 0 H')) Q) : Wp (ref09_row_L0b (world n D) u h k7 self (i : Int) kv H) Q := by
 have ll := lenS_nat u
 obtain ⟨hlt, n1, n2⟩ := go_in s
 have hx1 := idxS_nat (l := u) hlt
 have e41 : (((u[i]).toNat : Int) != 41) = true := bne_t (by omega)
 unfold ref09_row_L0b
 repeat (first | (with_reducible first | refine Wp.join1 (fun _ _ => ?_) | refine Wp.l ?_ | (apply Wp.o; exact hx1)) | ((with_reducible refine Wp.ift ?_ ?_); first | (with_reducible assumption) | ((with_reducible first | apply decide_eq_true | apply bne_t); omega)) | (with_reducible refine Wp.go1 (by assumption) ?_) | rw [newP_eq])
 refine Wp.callOk (k hD (by rw [M.ex]; exact hx)) M fun c T h2 kt M2 => ?_
 refine Wp.o (extT_0 _ _) (Wp.o (avAgg_agg _) (Wp.o (extT_1 _ _ _) (Wp.o (avInt_int _ _) (Wp.o (extT_2 _ _ _ _) (Wp.o (avBool_bool _) ?_)))))
 refine Wp.mnew M2 fun h3 M3 => ?_
 rw [newP_eq]
 refine Wp.sa0 M3 kt.len rfl kt.one fun h4 M4 => ?_
 refine Wp.l (Wp.iff rfl ?_)
 exact hk c T h2.next h4 kt M4
theorem row_bare (hu : u.length ≤ 1000000) (hij : i < j) (hj : j ≤ u.length) (hi : i ≤ u.length) (s : ¬ stops u i) (k : AtomM u n i (.ok (t, j))) (n0 : signAt u j = 0) (m : RowM u n (l ++ [t]) j r) : RowM u n l i r := by
 intro D f h H kc kv T0 T1 z k7 Q hD hf g ks hx hl hz M hok hbad
 obtain ⟨f, rfl⟩ : ∃ f', f = f' + 1 := ⟨f - 1, by omega⟩
 have ll := lenS_nat u
 rw [ref09_row_L0_s]
 refine row_step s k hD hx M _ fun c T q H' kt M2 => ?_
 have fin : Wp (obind (ldRow H' 6 (.ptr q 0)) fun t62 =>
       outK (bldSl Try.prog H' TNodes 1 [(0, .agg t62)]) fun v63 h_66 =>
       outK (opAppend Try.prog h_66 TNodes TNodes kv v63) fun v64 h_68 =>
       ref09_row_L0 (world n D) u h k7 f ((j : Nat) : Int) v64 h_68) Q := by
  refine Wp.lr0 M2 kt.len ?_
  refine Wp.nodeGrow M2 g ks kt hx (by omega) fun kv' h' T0' g' ks' M5 => ?_
  exact m (by omega) (by omega) g' ks' hx (by simp; omega) hz M5.pop hok hbad
 rcases Nat.lt_or_ge j u.length with hlt | hge
 ·obtain ⟨z1, z2, z3⟩ := sign_zero n0 (at?_lt hlt)
  have hx1 := idxS_nat (l := u) hlt
  repeat (first | (with_reducible first | refine Wp.join1 (fun _ _ => ?_) | refine Wp.l ?_ | (apply Wp.o; exact hx1)) | ((with_reducible refine Wp.ift ?_ ?_); ((with_reducible first | apply decide_eq_true | apply beq_t); omega)) | ((with_reducible refine Wp.iff ?_ ?_); ((with_reducible first | apply decide_eq_false | apply beq_f); omega)) | (with_reducible refine Wp.go1 (by assumption) ?_))
  exact fin
 ·repeat (first | (with_reducible first | refine Wp.join1 (fun _ _ => ?_) | refine Wp.l ?_) | ((with_reducible refine Wp.iff ?_ ?_; apply decide_eq_false); omega) | (with_reducible refine Wp.go1 (by assumption) ?_))
  exact fin
theorem row_sign (hu : u.length ≤ 1000000) (hij : i < j) (hi : i ≤ u.length) (s : ¬ stops u i) (k : AtomM u n i (.ok (t, j))) (n0 : signAt u j ≠ 0) (m : RowM u n (l ++ [overN (signAt u j) [t]]) (j + 1) r) : RowM u n l i r := by
 intro D f h H kc kv T0 T1 z k7 Q hD hf g ks hx hl hz M hok hbad
 obtain ⟨f, rfl⟩ : ∃ f', f = f' + 1 := ⟨f - 1, by omega⟩
 have ll := lenS_nat u
 rw [ref09_row_L0_s]
 refine row_step s k hD hx M _ fun c T q H' kt M2 => ?_
 obtain ⟨c0, hc0, hs⟩ := sign_pos n0
 obtain ⟨hlt, hc1⟩ := at?_some hc0
 have fin : ∀ k62 : Int → AHeap → R, (k62 = fun (t1_63 : Int) (h_64 : AHeap) => obind (ldRow h_64 6 (.ptr q 0)) fun t62 =>
       outK (bldSl Try.prog h_64 TNodes 1 [(0, .agg t62)]) fun v63 h_66 =>
       outK (opAppend Try.prog h_66 TNodes TNodes kv v63) fun v64 h_68 =>
       ref09_row_L0 (world n D) u h k7 f t1_63 v64 h_68) → Wp (obind (ldRow H' 6 (.ptr q 0)) fun t56 =>
       outK (bldSl Try.prog H' TNodes 1 [(0, .agg t56)]) fun v57 h_72 =>
       obind (bldS Try.prog TNode [(0, .int .i64 ((signAt u j : Nat) : Int)), (2, v57)]) fun t58 =>
       obind (stRow h_72 6 t58 (.ptr q 0)) fun h_75 =>
       lett (IntKind.i64.wrap (((j : Nat) : Int) + 1)) fun (t60 : Int) => k62 t60 h_75) Q := by
  intro k62 ek62
  refine Wp.lr0 M2 kt.len ?_
  refine Wp.mnews M2 (kt.bld _) kt.one hx fun h72 M3 => ?_
  refine Wp.o (bldOver1 _ _ _) ?_
  have kt' := signed kt (signAt u j) H'.next
  have M4 : Mem [] h h72 ((q, TNode, c) :: (((h.next, TNode, z) :: (T0 ++ T1)) ++ ([(H'.next, TNode, c)] ++ (T ++ [])))) := M3.perm (by
   rw [List.append_nil]
   exact (List.Perm.cons _ (List.perm_append_comm_assoc ((h.next, TNode, z) :: (T0 ++ T1)) [(H'.next, TNode, c)] T)).trans (List.Perm.swap _ _ _))
  refine Wp.sa0 M4 rfl kt.len rfl fun h75 M5 => ?_
  repeat (first | ((with_reducible refine Wp.lettw ?_ ?_ ?_); omega; omega) | (with_reducible refine Wp.go1 (by assumption) ?_))
  refine Wp.lr0 M5 rfl ?_
  refine Wp.nodeGrow M5 g ks kt' hx (by omega) fun kv' h' T0' g' ks' M6 => ?_
  rw [show (j : Int) + 1 = ((j + 1 : Nat) : Int) by omega]
  exact m (by omega) (by omega) g' ks' hx (by simp; omega) hz M6.pop hok hbad
 have hx1 := idxS_nat (l := u) hlt
 rw [hc1] at hx1
 rcases hs with ⟨rfl, hs⟩ | ⟨rfl, hs⟩ | ⟨rfl, hs⟩
 ·rw [hs] at fin
  repeat (first | (with_reducible first | refine Wp.join1 (fun _ _ => ?_) | refine Wp.l ?_ | (apply Wp.o; exact hx1)) | ((with_reducible refine Wp.ift ?_ ?_); ((with_reducible first | apply decide_eq_true | apply beq_t); omega)) | (with_reducible refine Wp.go1 (by assumption) ?_))
  rename_i k62 ek62
  exact fin k62 ek62
 ·rw [hs] at fin
  repeat (first | (with_reducible first | refine Wp.join1 (fun _ _ => ?_) | refine Wp.l ?_ | (apply Wp.o; exact hx1)) | ((with_reducible refine Wp.ift ?_ ?_); ((with_reducible first | apply decide_eq_true | apply beq_t); omega)) | ((with_reducible refine Wp.iff ?_ ?_; apply beq_f); omega) | (with_reducible refine Wp.go1 (by assumption) ?_))
  rename_i k62 ek62
  exact fin k62 ek62
 ·rw [hs] at fin
  repeat (first | (with_reducible first | refine Wp.join1 (fun _ _ => ?_) | refine Wp.l ?_ | (apply Wp.o; exact hx1)) | ((with_reducible refine Wp.ift ?_ ?_); ((with_reducible first | apply decide_eq_true | apply beq_t); omega)) | ((with_reducible refine Wp.iff ?_ ?_; apply beq_f); omega) | (with_reducible refine Wp.go1 (by assumption) ?_))
  rename_i k62 ek62
  exact fin k62 ek62
end
open Go.RowKit Abs
section
variable {n i j q : Nat} {u : Bytes} {l : List Nd} {r : Res} {t : Nd} {w : List Nat}
theorem loopP_words {r : Except Nat (List Nat × Nat)} (k : LoopP u w j r) : WordsOk w → ∀ w' j', r = .ok (w', j') → WordsOk w' := by
 induction k with
 | done ht =>
  intro hw w' j' e
  cases e
  exact hw
 | bad ht hm =>
  intro hw w' j' e
  cases e
 | more ht hm m ih =>
  intro hw
  exact ih (memberF_ok hw hm).1
theorem setP_words {r : Except Nat (List Nat × Nat)} (k : SetP u i r) : ∀ w' j', r = .ok (w', j') → WordsOk w' := by
 intro w' j' e
 cases k with
 | bad hm => cases e
 | set hm m =>
  rename_i w1 j1 r1
  cases r1 with
  | error q => cases e
  | ok wj =>
   obtain ⟨w2, j2⟩ := wj
   have := loopP_words m (memberF_ok zeroW_ok hm).1 w2 j2 rfl
   unfold othersR at e
   cases e
   split
   ·exact othersW_ok this
   ·exact this
theorem rowP_end : ∀ {l : List Nd} {i : Nat} {r : Res}, RowP u l i r → ∀ t j, r = .ok (t, j) → stops u j
 | _, _, _, .stop s, _, _, e => by
  cases e
  exact s
 | _, _, _, .bad _ _, _, _, e => by cases e
 | _, _, _, .more _ _ m, t, j, e => rowP_end m t j e
termination_by structural _ _ _ x => x
theorem altP_end : ∀ {l : List Nd} {i : Nat} {r : Res}, AltP u l i r → ∀ t j, r = .ok (t, j) → at? u j = none ∨ at? u j = some 41
 | _, _, _, .bad _, _, _, e => by cases e
 | _, _, _, .last h n, t, j, e => by
  cases e
  rcases rowP_end h _ _ rfl with s | s | s
  ·exact .inl s
  ·exact absurd s n
  ·exact .inr s
 | _, _, _, .more _ _ m, t, j, e => altP_end m t j e
termination_by structural _ _ _ x => x
theorem atom_open_bad (hu : u.length ≤ 1000000) (hn2 : u.length + 5 < n) (h0 : at? u i = some 40) (m : AltM u n [] (i + 1) (.error q)) : AtomM u n i (.error q) := by
 intro D h hD hx
 obtain ⟨D, rfl⟩ : ∃ D', D = D' + 1 := ⟨D - 1, by omega⟩
 obtain ⟨hlt, hc⟩ := at?_some h0
 have hx1 := idxS_nat (l := u) hlt
 rw [hc] at hx1
 rw [w_ref09_atom]
 refine OutN.gc ?_
 unfold ref09_atom
 have ll := lenS_nat u
 refine Wp.mnew (Mem.nil [] h) fun h2 M => ?_
 have ho := alt_call hn2 (h := h2) m (show 3 * (u.length - (i + 1)) + 7 ≤ D by omega) (by rw [M.ex]; exact hx)
 repeat (first | ((with_reducible refine Wp.lettw ?_ ?_ ?_); omega; omega) | (with_reducible first | refine Wp.l ?_ | (apply Wp.o; exact hx1)) | ((with_reducible refine Wp.ift ?_ ?_; apply beq_t); omega) | rw [newP_eq])
 refine Wp.callBad ho ?_
 have Mx := M
 repeat (first | (with_reducible apply Wp.o; first | exact avInt_int _ _ | exact avBool_bool _) | ((with_reducible apply Wp.lr0 Mx); rfl) | ((with_reducible apply Wp.sa0 Mx); rfl; rfl; (rfl); clear Mx; intro _ Mx) | ((with_reducible apply Wp.lr1 Mx); rfl) | ((with_reducible apply Wp.sa1 Mx); rfl; rfl; (rfl); clear Mx; intro _ Mx) | ((with_reducible apply Wp.mnew Mx); clear Mx; intro _ Mx) | (with_reducible first | refine Wp.l ?_ | (apply Wp.o; first | exact avAgg_agg _ | exact extT_0 _ _ | exact extT_1 _ _ _ | exact extT_2 _ _ _ _) | (refine Wp.ift ?_ ?_; exact Bool.not_false)) | rw [newP_eq])
 exact Wp.ret ⟨rfl, Mx.tch⟩
theorem atom_open_end (hu : u.length ≤ 1000000) (hn2 : u.length + 5 < n) (h0 : at? u i = some 40) (m : AltM u n [] (i + 1) (.ok (t, j))) (hj : j = u.length) : AtomM u n i (.error j) := by
 intro D h hD hx
 obtain ⟨D, rfl⟩ : ∃ D', D = D' + 1 := ⟨D - 1, by omega⟩
 obtain ⟨hlt, hc⟩ := at?_some h0
 have hx1 := idxS_nat (l := u) hlt
 rw [hc] at hx1
 rw [w_ref09_atom]
 refine OutN.gc ?_
 unfold ref09_atom
 have ll := lenS_nat u
 refine Wp.mnew (Mem.nil [] h) fun h2 M => ?_
 have ho := alt_call hn2 (h := h2) m (show 3 * (u.length - (i + 1)) + 7 ≤ D by omega) (by rw [M.ex]; exact hx)
 repeat (first | ((with_reducible refine Wp.lettw ?_ ?_ ?_); omega; omega) | (with_reducible first | refine Wp.l ?_ | (apply Wp.o; exact hx1)) | ((with_reducible refine Wp.ift ?_ ?_; apply beq_t); omega) | rw [newP_eq])
 refine Wp.callOk ho M fun c T h3 kt M2 => ?_
 refine Wp.o (extT_0 _ _) (Wp.o (avAgg_agg _) (Wp.o (extT_1 _ _ _) (Wp.o (avInt_int _ _) (Wp.o (extT_2 _ _ _ _) (Wp.o (avBool_bool _) ?_)))))
 refine Wp.mnew M2 fun h4 M3 => ?_
 refine Wp.sa0 M3 kt.len rfl kt.one fun h5 M4 => ?_
 repeat (first | (with_reducible refine Wp.l ?_) | ((with_reducible refine Wp.ift ?_ ?_; apply beq_t); omega) | (with_reducible refine Wp.iff ?_ ?_; exact Bool.not_true))
 refine Wp.sa1 M4 rfl rfl rfl fun h6 M5 => ?_
 refine Wp.lr1 M5 rfl ?_
 exact Wp.ret ⟨rfl, M5.tch⟩
theorem atom_group (hu : u.length ≤ 1000000) (hn2 : u.length + 5 < n) (h0 : at? u i = some 40) (m : AltM u n [] (i + 1) (.ok (t, j))) (hj : j < u.length) : AtomM u n i (.ok (t, j + 1)) := by
 intro D h hD hx
 obtain ⟨D, rfl⟩ : ∃ D', D = D' + 1 := ⟨D - 1, by omega⟩
 obtain ⟨hlt, hc⟩ := at?_some h0
 have hx1 := idxS_nat (l := u) hlt
 rw [hc] at hx1
 rw [w_ref09_atom]
 refine OutN.gc ?_
 unfold ref09_atom
 have ll := lenS_nat u
 refine Wp.mnew (Mem.nil [] h) fun h2 M => ?_
 have ho := alt_call hn2 (h := h2) m (show 3 * (u.length - (i + 1)) + 7 ≤ D by omega) (by rw [M.ex]; exact hx)
 repeat (first | ((with_reducible refine Wp.lettw ?_ ?_ ?_); omega; omega) | (with_reducible first | refine Wp.l ?_ | (apply Wp.o; exact hx1)) | ((with_reducible refine Wp.ift ?_ ?_; apply beq_t); omega) | rw [newP_eq])
 refine Wp.callOk ho M fun c T h3 kt M2 => ?_
 refine Wp.o (extT_0 _ _) (Wp.o (avAgg_agg _) (Wp.o (extT_1 _ _ _) (Wp.o (avInt_int _ _) (Wp.o (extT_2 _ _ _ _) (Wp.o (avBool_bool _) ?_)))))
 refine Wp.mnew M2 fun h4 M3 => ?_
 refine Wp.sa0 M3 kt.len rfl kt.one fun h5 M4 => ?_
 repeat (first | (with_reducible refine Wp.l ?_) | ((with_reducible refine Wp.iff ?_ ?_); first | (with_reducible exact Bool.not_true) | ((with_reducible apply beq_f); omega)) | rw [newP_eq])
 refine Wp.lr0 M4 kt.len ?_
 repeat (((with_reducible refine Wp.lettw ?_ ?_ ?_); omega; omega))
 refine Wp.sa1 M4 kt.len rfl kt.one fun h6 M5 => ?_
 refine Wp.lr1 M5 kt.len ?_
 exact Wp.ret ⟨c, T, by rw [show ((j + 1 : Nat) : Int) = (j : Int) + 1 by omega], kt, M5.pop.pop⟩
theorem atom_any (hn : 300 < n) (hu : u.length ≤ 1000000) (h0 : at? u i = some 46) : AtomM u n i (.ok (anyN, i + 1)) := by
 intro D h hD hx
 obtain ⟨D, rfl⟩ : ∃ D', D = D' + 1 := ⟨D - 1, by omega⟩
 obtain ⟨hlt, hc⟩ := at?_some h0
 have hx1 := idxS_nat (l := u) hlt
 rw [hc] at hx1
 rw [w_ref09_atom]
 refine OutN.gc ?_
 unfold ref09_atom
 have ll := lenS_nat u
 refine Wp.mnew (Mem.nil [] h) fun h2 M => ?_
 obtain ⟨D, rfl⟩ : ∃ D', D = D' + 1 := ⟨D - 1, by omega⟩
 repeat (first | (with_reducible first | refine Wp.l ?_ | (apply Wp.o; exact hx1)) | ((with_reducible refine Wp.ift ?_ ?_; apply beq_t); omega) | ((with_reducible refine Wp.iff ?_ ?_; apply beq_f); omega) | rw [newP_eq])
 refine Wp.callN (All_w hn) (Wp.o (avAgg_agg _) ?_)
 repeat (((with_reducible refine Wp.lettw ?_ ?_ ?_); omega; omega))
 have kt : NodeT anyN (nodeC 2 anyW .nsl) [] := NodeT.leaf 2 anyW_ok
 refine Wp.sa0 M kt.len rfl kt.one fun h5 M4 => ?_
 refine Wp.lr0 M4 kt.len ?_
 exact Wp.ret ⟨_, [], by rw [show ((i + 1 : Nat) : Int) = (i : Int) + 1 by omega], kt, M4.pop⟩
theorem atom_set (hn : 300 < n) (hu : u.length ≤ 1000000) (hn2 : u.length + 5 < n) (h0 : at? u i = some 91) (m : SetP u (i + 1) (.ok (w, j))) : AtomM u n i (.ok (.mk 2 w [], j)) := by
 intro D h hD hx
 obtain ⟨D, rfl⟩ : ∃ D', D = D' + 1 := ⟨D - 1, by omega⟩
 obtain ⟨hlt, hc⟩ := at?_some h0
 have hx1 := idxS_nat (l := u) hlt
 rw [hc] at hx1
 rw [w_ref09_atom]
 refine OutN.gc ?_
 unfold ref09_atom
 have ll := lenS_nat u
 refine Wp.mnew (Mem.nil [] h) fun h2 M => ?_
 obtain ⟨D, rfl⟩ : ∃ D', D = D' + 2 := ⟨D - 2, by omega⟩
 have ho := class_w (n := n) (d := D) (h := h2) hu hn hn2 (show i + 1 ≤ u.length by omega) m
 rw [show ((i + 1 : Nat) : Int) = (i : Int) + 1 by omega, set3] at ho
 repeat (first | ((with_reducible refine Wp.lettw ?_ ?_ ?_); omega; omega) | (with_reducible first | refine Wp.l ?_ | (apply Wp.o; first | exact hx1 | exact avInt_int _ _ | exact avBool_bool _ | exact avAgg_agg _ | exact extT_0 _ _ | exact extT_1 _ _ _ | exact extT_2 _ _ _ _)) | ((with_reducible refine Wp.ift ?_ ?_; apply beq_t); omega) | ((with_reducible refine Wp.iff ?_ ?_; apply beq_f); omega) | (with_reducible apply Wp.callN; exact ho) | rw [newP_eq])
 have kt : NodeT (.mk 2 w []) (nodeC 2 w .nsl) [] := NodeT.leaf 2 (setP_words m _ _ rfl)
 refine Wp.sa0 M kt.len rfl kt.one fun h5 M4 => ?_
 refine Wp.lr0 M4 kt.len ?_
 exact Wp.ret ⟨_, [], rfl, kt, M4.pop⟩
theorem atom_set_bad (hn : 300 < n) (hu : u.length ≤ 1000000) (hn2 : u.length + 5 < n) (h0 : at? u i = some 91) (m : SetP u (i + 1) (.error q)) : AtomM u n i (.error q) := by
 intro D h hD hx
 obtain ⟨D, rfl⟩ : ∃ D', D = D' + 1 := ⟨D - 1, by omega⟩
 obtain ⟨hlt, hc⟩ := at?_some h0
 have hx1 := idxS_nat (l := u) hlt
 rw [hc] at hx1
 rw [w_ref09_atom]
 refine OutN.gc ?_
 unfold ref09_atom
 have ll := lenS_nat u
 refine Wp.mnew (Mem.nil [] h) fun h2 M => ?_
 obtain ⟨D, rfl⟩ : ∃ D', D = D' + 2 := ⟨D - 2, by omega⟩
 have ho := class_w (n := n) (d := D) (h := h2) hu hn hn2 (show i + 1 ≤ u.length by omega) m
 rw [show ((i + 1 : Nat) : Int) = (i : Int) + 1 by omega, set3] at ho
 repeat (first | ((with_reducible refine Wp.lettw ?_ ?_ ?_); omega; omega) | (with_reducible first | refine Wp.l ?_ | (apply Wp.o; first | exact hx1 | exact avInt_int _ _ | exact avBool_bool _ | exact avAgg_agg _ | exact extT_0 _ _ | exact extT_1 _ _ _ | exact extT_2 _ _ _ _)) | ((with_reducible refine Wp.ift ?_ ?_; apply beq_t); omega) | ((with_reducible refine Wp.iff ?_ ?_; apply beq_f); omega) | (with_reducible apply Wp.callN; exact ho) | rw [newP_eq])
 refine Wp.sa0 M rfl rfl rfl fun h5 M4 => ?_
 refine Wp.lr0 M4 rfl ?_
 exact Wp.ret ⟨rfl, M4.tch⟩
theorem atom_sl_end (hu : u.length ≤ 1000000) (h0 : at? u i = some 92) (h1 : at? u (i + 1) = none) : AtomM u n i (.error (i + 1)) := by
 intro D h hD hx
 obtain ⟨D, rfl⟩ : ∃ D', D = D' + 1 := ⟨D - 1, by omega⟩
 obtain ⟨hlt, hc⟩ := at?_some h0
 have hx1 := idxS_nat (l := u) hlt
 rw [hc] at hx1
 rw [w_ref09_atom]
 refine OutN.gc ?_
 unfold ref09_atom
 have ll := lenS_nat u
 refine Wp.mnew (Mem.nil [] h) fun h2 M => ?_
 have he := at?_none h1 (by omega)
 repeat (first | (with_reducible refine Wp.join1 (fun _ _ => ?_)) | ((with_reducible refine Wp.lettw ?_ ?_ ?_); omega; omega) | (with_reducible first | refine Wp.l ?_ | (apply Wp.o; exact hx1)) | ((with_reducible refine Wp.ift ?_ ?_; apply beq_t); omega) | ((with_reducible refine Wp.iff ?_ ?_; apply beq_f); omega) | (with_reducible refine Wp.go1 (by assumption) ?_) | rw [newP_eq])
 refine Wp.sa0 M rfl rfl rfl fun h5 M4 => ?_
 refine Wp.lr0 M4 rfl ?_
 exact Wp.ret ⟨by rw [show ((i + 1 : Nat) : Int) = (i : Int) + 1 by omega]; rfl, M4.tch⟩
theorem atom_sl {c : Nat} (hu : u.length ≤ 1000000) (h0 : at? u i = some 92) (h1 : at? u (i + 1) = some c) : AtomM u n i (.ok (oneN c, i + 2)) := by
 intro D h hD hx
 obtain ⟨D, rfl⟩ : ∃ D', D = D' + 1 := ⟨D - 1, by omega⟩
 obtain ⟨hlt, hc⟩ := at?_some h0
 have hx1 := idxS_nat (l := u) hlt
 rw [hc] at hx1
 rw [w_ref09_atom]
 refine OutN.gc ?_
 unfold ref09_atom
 have ll := lenS_nat u
 refine Wp.mnew (Mem.nil [] h) fun h2 M => ?_
 obtain ⟨hlt1, hc1⟩ := at?_some h1
 have hx2 := idxS_nat (l := u) hlt1
 rw [hc1, show ((i + 1 : Nat) : Int) = (i : Int) + 1 by omega] at hx2
 have hc256 := at?_256 h1
 obtain ⟨D, rfl⟩ : ∃ D', D = D' + 1 := ⟨D - 1, by omega⟩
 repeat (first | (with_reducible refine Wp.join1 (fun _ _ => ?_)) | ((with_reducible refine Wp.lettw ?_ ?_ ?_); omega; omega) | (with_reducible first | refine Wp.l ?_ | (apply Wp.o; first | exact hx1 | exact hx2 | exact avAgg_agg _)) | ((with_reducible refine Wp.ift ?_ ?_; apply beq_t); omega) | ((with_reducible refine Wp.iff ?_ ?_; apply beq_f); omega) | (with_reducible first | (apply Wp.callN; exact One_w hc256) | refine Wp.go1 (by assumption) ?_) | rw [newP_eq])
 have kt : NodeT (oneN c) (nodeC 2 (spanW zeroW c 1) .nsl) [] := NodeT.leaf 2 (spanW_ok 1 zeroW_ok c)
 refine Wp.sa0 M kt.len rfl kt.one fun h5 M4 => ?_
 refine Wp.lr0 M4 kt.len ?_
 exact Wp.ret ⟨_, [], by rw [show ((i + 2 : Nat) : Int) = (i : Int) + 2 by omega], kt, M4.pop⟩
theorem atom_bad {c : Nat} (h0 : at? u i = some c) (hb : c = 42 ∨ c = 43 ∨ c = 63 ∨ c = 93) : AtomM u n i (.error i) := by
 intro D h hD hx
 obtain ⟨D, rfl⟩ : ∃ D', D = D' + 1 := ⟨D - 1, by omega⟩
 obtain ⟨hlt, hc⟩ := at?_some h0
 have hx1 := idxS_nat (l := u) hlt
 rw [hc] at hx1
 rw [w_ref09_atom]
 refine OutN.gc ?_
 unfold ref09_atom
 have ll := lenS_nat u
 refine Wp.mnew (Mem.nil [] h) fun h2 M => ?_
 rcases hb with rfl | rfl | rfl | rfl
 ·repeat (first | (with_reducible first | refine Wp.join1 (fun _ _ => ?_) | refine Wp.l ?_ | (apply Wp.o; exact hx1)) | ((with_reducible refine Wp.ift ?_ ?_); first | (with_reducible rfl) | ((with_reducible apply beq_t); omega)) | ((with_reducible refine Wp.iff ?_ ?_; apply beq_f); omega) | (with_reducible refine Wp.go1 (by assumption) ?_) | rw [newP_eq])
  refine Wp.sa0 M rfl rfl rfl fun h5 M4 => ?_
  refine Wp.lr0 M4 rfl ?_
  exact Wp.ret ⟨rfl, M4.tch⟩
 ·repeat (first | (with_reducible first | refine Wp.join1 (fun _ _ => ?_) | refine Wp.l ?_ | (apply Wp.o; exact hx1)) | ((with_reducible refine Wp.ift ?_ ?_); first | (with_reducible rfl) | ((with_reducible apply beq_t); omega)) | ((with_reducible refine Wp.iff ?_ ?_; apply beq_f); omega) | (with_reducible refine Wp.go1 (by assumption) ?_) | rw [newP_eq])
  refine Wp.sa0 M rfl rfl rfl fun h5 M4 => ?_
  refine Wp.lr0 M4 rfl ?_
  exact Wp.ret ⟨rfl, M4.tch⟩
 ·repeat (first | (with_reducible first | refine Wp.join1 (fun _ _ => ?_) | refine Wp.l ?_ | (apply Wp.o; exact hx1)) | ((with_reducible refine Wp.ift ?_ ?_); first | (with_reducible rfl) | ((with_reducible apply beq_t); omega)) | ((with_reducible refine Wp.iff ?_ ?_; apply beq_f); omega) | (with_reducible refine Wp.go1 (by assumption) ?_) | rw [newP_eq])
  refine Wp.sa0 M rfl rfl rfl fun h5 M4 => ?_
  refine Wp.lr0 M4 rfl ?_
  exact Wp.ret ⟨rfl, M4.tch⟩
 ·repeat (first | (with_reducible first | refine Wp.join1 (fun _ _ => ?_) | refine Wp.l ?_ | (apply Wp.o; exact hx1)) | ((with_reducible refine Wp.ift ?_ ?_; apply beq_t); omega) | ((with_reducible refine Wp.iff ?_ ?_; apply beq_f); omega) | (with_reducible refine Wp.go1 (by assumption) ?_) | rw [newP_eq])
  refine Wp.sa0 M rfl rfl rfl fun h5 M4 => ?_
  refine Wp.lr0 M4 rfl ?_
  exact Wp.ret ⟨rfl, M4.tch⟩
theorem atom_one {c : Nat} (hu : u.length ≤ 1000000) (h0 : at? u i = some c) (hb : c ≠ 42 ∧ c ≠ 43 ∧ c ≠ 63 ∧ c ≠ 93) (hm : c ≠ 40 ∧ c ≠ 46 ∧ c ≠ 91 ∧ c ≠ 92) : AtomM u n i (.ok (oneN c, i + 1)) := by
 intro D h hD hx
 obtain ⟨D, rfl⟩ : ∃ D', D = D' + 1 := ⟨D - 1, by omega⟩
 obtain ⟨hlt, hc⟩ := at?_some h0
 have hx1 := idxS_nat (l := u) hlt
 rw [hc] at hx1
 rw [w_ref09_atom]
 refine OutN.gc ?_
 unfold ref09_atom
 have ll := lenS_nat u
 refine Wp.mnew (Mem.nil [] h) fun h2 M => ?_
 have hc256 := at?_256 h0
 obtain ⟨D, rfl⟩ : ∃ D', D = D' + 1 := ⟨D - 1, by omega⟩
 obtain ⟨b1, b2, b3, b4⟩ := hb
 obtain ⟨m1, m2, m3, m4⟩ := hm
 have e93 : ((c : Int) == 93) = false := beq_f (by omega)
 repeat (first | (with_reducible refine Wp.join1 (fun _ _ => ?_)) | ((with_reducible refine Wp.lettw ?_ ?_ ?_); omega; omega) | (with_reducible first | refine Wp.l ?_ | (apply Wp.o; first | exact hx1 | exact avAgg_agg _)) | ((with_reducible refine Wp.iff ?_ ?_); first | (with_reducible assumption) | ((with_reducible apply beq_f); omega)) | (with_reducible first | (apply Wp.callN; exact One_w hc256) | refine Wp.go1 (by assumption) ?_) | rw [newP_eq])
 have kt : NodeT (oneN c) (nodeC 2 (spanW zeroW c 1) .nsl) [] := NodeT.leaf 2 (spanW_ok 1 zeroW_ok c)
 refine Wp.sa0 M kt.len rfl kt.one fun h5 M4 => ?_
 refine Wp.lr0 M4 kt.len ?_
 exact Wp.ret ⟨_, [], by rw [show ((i + 1 : Nat) : Int) = (i : Int) + 1 by omega], kt, M4.pop⟩
def PartM (u : Bytes) (n i : Nat) : Res → Prop
 | .error q => ¬ stops u i → AtomM u n i (.error q)
 | .ok (t, j) => ∀ l r', ¬ stops u i → RowM u n (l ++ [t]) j r' → RowM u n l i r'
mutual
theorem altM (hu : u.length ≤ 1000000) (hn : 300 < n) (hn2 : u.length + 5 < n) : ∀ {l : List Nd} {i : Nat} {r : Res}, AltP u l i r → i ≤ u.length → AltM u n l i r
 | _, _, _, .bad h, hi => alt_bad hu hn2 (rowM hu hn hn2 h hi)
 | _, _, _, .last h ne, hi => alt_last hu hn2 (rowP_bnd h hi).2 (rowM hu hn hn2 h hi) ne hi
 | _, _, _, .more h ne m, hi => alt_more hu hn2 (rowP_bnd h hi).1 (rowM hu hn hn2 h hi) ne hi (altM hu hn hn2 m (by
   obtain ⟨hp, _⟩ := at?_some ne
   omega))
termination_by structural _ _ _ x => x
theorem rowM (hu : u.length ≤ 1000000) (hn : 300 < n) (hn2 : u.length + 5 < n) : ∀ {l : List Nd} {i : Nat} {r : Res}, RowP u l i r → i ≤ u.length → RowM u n l i r
 | _, _, _, .stop s, hi => row_stop hi s
 | _, _, _, .bad s h, hi => row_bad s (partM hu hn hn2 h hi s)
 | l, _, r, .more s h m, hi => partM hu hn hn2 h hi l r s (rowM hu hn hn2 m (partP_bnd h hi).2)
termination_by structural _ _ _ x => x
theorem partM (hu : u.length ≤ 1000000) (hn : 300 < n) (hn2 : u.length + 5 < n) : ∀ {i : Nat} {r : Res}, PartP u i r → i ≤ u.length → PartM u n i r
 | _, _, .bad h, hi => fun s => atomM hu hn hn2 h hi s
 | _, _, .bare h n0, hi => fun _ _ s m => row_bare hu (atomP_bnd h hi).1 (atomP_bnd h hi).2 hi s (atomM hu hn hn2 h hi s) n0 m
 | _, _, .sign h n0, hi => fun _ _ s m => row_sign hu (atomP_bnd h hi).1 hi s (atomM hu hn hn2 h hi s) n0 m
termination_by structural _ _ x => x
theorem atomM (hu : u.length ≤ 1000000) (hn : 300 < n) (hn2 : u.length + 5 < n) : ∀ {i : Nat} {r : Res}, AtomP u i r → i ≤ u.length → ¬ stops u i → AtomM u n i r
 | _, _, .none h, hi, s => absurd (.inl h) s
 | _, _, .open_bad h m, hi, _ => atom_open_bad hu hn2 h (altM hu hn hn2 m (by
   obtain ⟨hp, _⟩ := at?_some h
   omega))
 | _, _, .open_end h m ne, hi, _ => by
  obtain ⟨hp, _⟩ := at?_some h
  have e := (altP_end m _ _ rfl).resolve_right ne
  have hj := at?_none e (altP_bnd m (by omega)).2
  exact atom_open_end hu hn2 h (altM hu hn hn2 m (by omega)) hj
 | _, _, .group h m ne, hi, _ => by
  obtain ⟨hp, _⟩ := at?_some h
  obtain ⟨hj, _⟩ := at?_some ne
  exact atom_group hu hn2 h (altM hu hn hn2 m (by omega)) hj
 | _, _, .any h, hi, _ => atom_any hn hu h
 | _, _, .set_bad h m, hi, _ => atom_set_bad hn hu hn2 h m
 | _, _, .set h m, hi, _ => atom_set hn hu hn2 h m
 | _, _, .sl_end h h1, hi, _ => atom_sl_end hu h h1
 | _, _, .sl h h1, hi, _ => atom_sl hu h h1
 | _, _, .bad h hb, hi, s => atom_bad h (by
   unfold badAtom at hb
   rcases hb with hb | hb | hb
   ·exact absurd (.inr (.inl (by rw [h, hb]))) s
   ·exact absurd (.inr (.inr (by rw [h, hb]))) s
   ·exact hb)
 | _, _, .one h hb hm, hi, _ => atom_one hu h (by
   unfold badAtom at hb
   omega) hm
termination_by structural _ _ x => x
end
end
end Go.Proofs.Yteibdplpbcobbaa
