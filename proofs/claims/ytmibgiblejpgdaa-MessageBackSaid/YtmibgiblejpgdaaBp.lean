/- What was written is read as it was. -/
import Derived.Test.YtmibgiblejpgdaaRy
import Derived.Test.YtmibgiblejpgdaaEn
namespace Go.Proofs.Ytmibgiblejpgdaa
open Go.RowKit Abs

theorem valF_numB : ∀ (w v a : Nat), v < 256 ^ w → valF a (numB w v) = a * 256 ^ w + v
  | 0, v, a, h => by
    have : v = 0 := by simpa using h
    subst this
    simp [numB, valF]
  | w + 1, v, a, h => by
    rw [numB, valF_append, valF_numB w (v / 256) a (by rw [Nat.pow_succ] at h; omega), valF, valF]
    rw [UInt8.toNat_ofNat']
    have h1 : v % 256 % 2 ^ 8 = v % 256 := by omega
    rw [h1, Nat.pow_succ, Nat.add_mul, Nat.mul_assoc]
    omega
theorem valB_numB {w v : Nat} (h : v < 256 ^ w) : valB (numB w v) = v := by
  unfold valB
  rw [valF_numB w v 0 h]
  omega
theorem rNum_at {u pre suf : Bytes} {w v : Nat} (hu : u = pre ++ (numB w v ++ suf)) (hv : v < 256 ^ w) : rNum u w ⟨pre.length, 0, 0⟩ = (v, ⟨pre.length + w, 0, 0⟩) := by
  subst hu
  unfold rNum
  rw [if_neg (by simp), if_neg (by simp [numB_length])]
  have : ((pre ++ (numB w v ++ suf)).drop pre.length).take w = numB w v := by
    rw [List.drop_left]
    have := List.take_left (l₁ := numB w v) (l₂ := suf)
    rwa [numB_length] at this
  simp only [this, valB_numB hv]
theorem rText_at {u pre suf d : Bytes} {most : Nat} (hu : u = pre ++ (textB d ++ suf)) (hd : d.length ≤ most) (hm : most < 4294967296) : rText u most ⟨pre.length, 0, 0⟩ = (d, ⟨pre.length + (textB d).length, 0, 0⟩) := by
  have h1 : rNum u 4 ⟨pre.length, 0, 0⟩ = (d.length, ⟨pre.length + 4, 0, 0⟩) := rNum_at (suf := d ++ suf) (by rw [hu]; unfold textB; simp) (by show d.length < 4294967296; omega)
  unfold rText
  rw [h1]
  rw [if_neg (by simp), if_neg (by simp; omega)]
  have h2 : u.length = pre.length + 4 + d.length + suf.length := by rw [hu]; simp [textB, numB_length]; omega
  rw [if_neg (by simp only; omega)]
  have h3 : (u.drop (pre.length + 4)).take d.length = d := by
    have : u = (pre ++ numB 4 d.length) ++ (d ++ suf) := by rw [hu]; unfold textB; simp
    rw [this, show pre.length + 4 = (pre ++ numB 4 d.length).length by simp [numB_length], List.drop_left, List.take_left]
  simp only [h3, textB_length]
  congr 2
  omega
theorem rBool_at {u pre suf : Bytes} {g : Bool} (hu : u = pre ++ (numB 1 (boolN g) ++ suf)) : rBool u ⟨pre.length, 0, 0⟩ = (g, ⟨pre.length + 1, 0, 0⟩) := by
  have h1 := rNum_at hu (by cases g <;> decide)
  unfold rBool
  rw [h1]
  cases g <;> rfl
/-- the same bytes, cut elsewhere -/
theorem rNum_ext {u x : Bytes} {w : Nat} {r : RS} (h : (rNum u w r).2.e = 0) : rNum (u ++ x) w r = rNum u w r := by
  obtain ⟨h1, h2, h3⟩ := rNum_bad h
  rw [h3]
  unfold rNum
  rw [if_neg (by simpa using h1), if_neg (by rw [List.length_append]; omega)]
  have : ((u ++ x).drop r.p).take w = (u.drop r.p).take w := by
    rw [List.drop_append_of_le_length (by omega), List.take_append_of_le_length (by rw [List.length_drop]; omega)]
  rw [this]
theorem rBool_ext {u x : Bytes} {r : RS} (h : (rBool u r).2.e = 0) : rBool (u ++ x) r = rBool u r ∧ r.e = 0 := by
  have h1 : (rNum u 1 r).2.e = 0 := by
    unfold rBool at h
    split at h
    · simp at h
    · exact h
  refine ⟨?_, (rNum_bad h1).1⟩
  unfold rBool
  rw [rNum_ext h1]
theorem rText_ext {u x : Bytes} {most : Nat} {r : RS} (h : (rText u most r).2.e = 0) : rText (u ++ x) most r = rText u most r ∧ r.e = 0 := by
  unfold rText at h
  split at h
  · rename_i h1
    exact absurd h h1
  · rename_i h1
    have h1' : (rNum u 4 r).2.e = 0 := by simpa using h1
    split at h
    · simp at h
    · rename_i h2
      split at h
      · simp at h
      · rename_i h3
        refine ⟨?_, (rNum_bad h1').1⟩
        unfold rText
        rw [rNum_ext h1', if_neg h1, if_neg h1, if_neg h2, if_neg h2, if_neg h3, if_neg (by rw [List.length_append]; omega)]
        have : ((u ++ x).drop (rNum u 4 r).2.p).take (rNum u 4 r).1 = (u.drop (rNum u 4 r).2.p).take (rNum u 4 r).1 := by
          rw [List.drop_append_of_le_length (by omega), List.take_append_of_le_length (by rw [List.length_drop]; omega)]
        rw [this]
theorem rSt_ext {u x : Bytes} {r : RS} : ∀ i, (rSt u r i).e = 0 → rSt (u ++ x) r i = rSt u r i ∧ r.e = 0
  | 0, h => ⟨rfl, h⟩
  | i + 1, h => by
    have h0 : (rSt u r i).e = 0 := (rNum_bad h).1
    obtain ⟨h1, h2⟩ := rSt_ext i h0
    refine ⟨?_, h2⟩
    show (rNum (u ++ x) 8 (rSt (u ++ x) r i)).2 = _
    rw [h1, rNum_ext h]
    rfl
theorem eSt_ext {u x : Bytes} {r : RS} : ∀ i, (eSt u r i).e = 0 → eSt (u ++ x) r i = eSt u r i ∧ r.e = 0
  | 0, h => ⟨rfl, h⟩
  | i + 1, h => by
    have h3 := rText_ext (x := x) h
    have h0 : (eSt u r i).e = 0 := (rNum_bad h3.2).1
    obtain ⟨h1, h2⟩ := eSt_ext i h0
    refine ⟨?_, h2⟩
    show (rText (u ++ x) 3500 (rNum (u ++ x) 8 (eSt (u ++ x) r i)).2).2 = _
    rw [h1, rNum_ext h3.2, h3.1]
    rfl
theorem q9_ext {u x : Bytes} (h : (q9 u).e = 0) : q9 (u ++ x) = q9 u := by
  obtain ⟨_, h8⟩ := eSt_ext (x := x) _ h
  have h7 : (q7 u).e = 0 := (rNum_bad h8).1
  obtain ⟨e7, h6⟩ := rText_ext (x := x) h7
  have h5 : (q5 u).e = 0 := (rNum_bad h6).1
  have h4 : (q4 u).e = 0 := (rNum_bad h5).1
  have h3 : (q3 u).e = 0 := (rNum_bad h4).1
  obtain ⟨e3, h2⟩ := rBool_ext (x := x) h3
  obtain ⟨e2, h1⟩ := rSt_ext (x := x) 15 h2
  have a1 : q1 (u ++ x) = q1 u := by unfold q1; rw [rNum_ext h1]
  have a2 : q2 (u ++ x) = q2 u := by show rSt (u ++ x) (q1 (u ++ x)) 15 = _; rw [a1]; exact e2
  have a3 : q3 (u ++ x) = q3 u := by show (rBool (u ++ x) (q2 (u ++ x))).2 = _; rw [a2, e3]
  have a4 : q4 (u ++ x) = q4 u := by show (rNum (u ++ x) 1 (q3 (u ++ x))).2 = _; rw [a3, rNum_ext h4]
  have a5 : q5 (u ++ x) = q5 u := by show (rNum (u ++ x) 4 (q4 (u ++ x))).2 = _; rw [a4, rNum_ext h5]
  have a6 : q6 (u ++ x) = q6 u := by show (rNum (u ++ x) 1 (q5 (u ++ x))).2 = _; rw [a5, rNum_ext h6]
  have a7 : q7 (u ++ x) = q7 u := by show (rText (u ++ x) 3500 (q6 (u ++ x))).2 = _; rw [a6, e7]
  have a8 : rNum (u ++ x) 1 (q7 (u ++ x)) = rNum u 1 (q7 u) := by rw [a7, rNum_ext h8]
  have a9 : q8 (u ++ x) = q8 u := congrArg Prod.snd a8
  have am : manyOf (u ++ x) = manyOf u := congrArg Prod.fst a8
  have ac : cntOf (u ++ x) = cntOf u := by unfold cntOf; rw [am]
  show eSt (u ++ x) (q8 (u ++ x)) (cntOf (u ++ x)) = _
  rw [a9, ac]
  exact (eSt_ext (x := x) _ h).1
section
variable {m : Ms} {es : List (Int × Bytes)}
theorem numN_lt (hF : Fine m es) (i : Nat) : numN m i ≤ 1125899906842624 := by
  unfold numN
  split
  · rename_i hi
    have hr : 0 ≤ m.nums ⟨i, hi⟩ ∧ m.nums ⟨i, hi⟩ ≤ mostOf i := hF.head.2.2.2.2.2.2 ⟨i, hi⟩
    have hm : mostOf i ≤ 1125899906842624 := by unfold mostOf; split <;> omega
    omega
  · omega
theorem numsTo_split (m : Ms) : ∀ k i, numsTo m (i + k) = numsTo m i ++ (numsTo m (i + k)).drop (8 * i)
  | 0, i => by rw [Nat.add_zero, List.drop_eq_nil_of_le (by rw [numsTo_length]; omega), List.append_nil]
  | k + 1, i => by
    have h := numsTo_split m k i
    rw [← Nat.add_assoc, numsTo, List.drop_append_of_le_length (by rw [numsTo_length]; omega), ← List.append_assoc, ← h]
theorem numsTo_cons (m : Ms) {i K : Nat} (hi : i < K) : ∃ y, numsTo m K = numsTo m i ++ (numB 8 (numN m i) ++ y) := by
  have h := numsTo_split m (K - (i + 1)) (i + 1)
  rw [show i + 1 + (K - (i + 1)) = K by omega] at h
  rw [numsTo, List.append_assoc] at h
  exact ⟨_, h⟩
theorem entsTo_cons {i : Nat} (hi : i < es.length) : ∃ y, entsTo es es.length = entsTo es i ++ (entB es[i] ++ y) := by
  unfold entsTo
  rw [List.take_length]
  refine ⟨((es.drop (i + 1)).map entB).flatten, ?_⟩
  rw [← List.flatten_cons, ← List.map_cons, ← List.drop_eq_getElem_cons hi, ← List.flatten_append, ← List.map_append, List.take_append_drop]
/-- what is read of a message's bytes, whatever stands behind -/
structure Back (m : Ms) (es : List (Int × Bytes)) (u : Bytes) : Prop where
  kind : ((rNum u 1 ⟨0, 0, 0⟩).1 : Int) = m.kind
  nums : ∀ j : Fin 15, ((rV u (q1 u) j.val : Nat) : Int) = m.nums j
  good : (rBool u (q2 u)).1 = m.good
  op : ((rNum u 1 (q3 u)).1 : Int) = m.op
  err : ((rNum u 4 (q4 u)).1 : Int) = m.err
  leader : ((rNum u 1 (q5 u)).1 : Int) = m.leader
  data : (rText u 3500 (q6 u)).1 = m.data
  many : manyOf u = es.length
  ents : ∀ i (hi : i < es.length), (((eV u (q8 u) i).1 : Nat) : Int) = es[i].1 ∧ (eV u (q8 u) i).2 = es[i].2
  fin : q9 u = ⟨(formM m es).length, 0, 0⟩
theorem back_of (hF : Fine m es) (hop : 0 ≤ m.op ∧ m.op < 256) {u more : Bytes} (hu : u = formM m es ++ more) : Back m es u := by
  have hh := hF.head
  unfold headOk at hh
  have hfew := hF.few
  have hsh := hF.short
  have k1 : rNum u 1 ⟨0, 0, 0⟩ = (m.kind.toNat, ⟨1, 0, 0⟩) := by
    have := rNum_at (u := u) (pre := []) (w := 1) (v := m.kind.toNat) (suf := numsTo m 15 ++ (midB m ++ (numB 1 es.length ++ (entsTo es es.length ++ more)))) (by rw [hu]; unfold formM; simp) (by show _ < 256; omega)
    simpa using this
  have a1 : q1 u = ⟨1, 0, 0⟩ := by unfold q1; rw [k1]
  have l15 := numsTo_length m 15
  have hB := hu
  unfold formM midB at hB
  simp only [List.append_assoc] at hB
  have kn : ∀ i, i < 15 → rNum u 8 ⟨1 + 8 * i, 0, 0⟩ = (numN m i, ⟨1 + 8 * i + 8, 0, 0⟩) := by
    intro i hi
    obtain ⟨y, hy⟩ := numsTo_cons m hi
    have hl := numsTo_length m i
    have := rNum_at (u := u) (pre := numB 1 m.kind.toNat ++ numsTo m i) (w := 8) (v := numN m i) (suf := y ++ (midB m ++ (numB 1 es.length ++ (entsTo es es.length ++ more)))) (by rw [hu]; unfold formM; rw [hy]; simp) (by have := numN_lt hF i; show _ < 18446744073709551616; omega)
    rw [List.length_append, numB_length, hl] at this
    exact this
  have aS : ∀ i, i ≤ 15 → rSt u (q1 u) i = ⟨1 + 8 * i, 0, 0⟩ := by
    intro i
    induction i with
    | zero => intro _; rw [a1]; rfl
    | succ i ih =>
      intro hi
      rw [rSt, ih (by omega), kn i (by omega)]
      simp only [RS.mk.injEq, and_true]
      omega
  have a2 : q2 u = ⟨121, 0, 0⟩ := aS 15 (by omega)
  have P2 : (numB 1 m.kind.toNat ++ numsTo m 15).length = 121 := by rw [List.length_append, numB_length, l15]
  have k3 := rBool_at (u := u) (pre := numB 1 m.kind.toNat ++ numsTo m 15) (g := m.good) (suf := numB 1 m.op.toNat ++ (numB 4 m.err.toNat ++ (numB 1 m.leader.toNat ++ (textB m.data ++ (numB 1 es.length ++ (entsTo es es.length ++ more)))))) (by rw [hB]; simp)
  rw [P2, ← a2] at k3
  have a3 : q3 u = ⟨122, 0, 0⟩ := by unfold q3; rw [k3]
  have k4 := rNum_at (u := u) (pre := numB 1 m.kind.toNat ++ (numsTo m 15 ++ numB 1 (boolN m.good))) (w := 1) (v := m.op.toNat) (suf := numB 4 m.err.toNat ++ (numB 1 m.leader.toNat ++ (textB m.data ++ (numB 1 es.length ++ (entsTo es es.length ++ more))))) (by rw [hB]; simp) (by show _ < 256; omega)
  rw [show (numB 1 m.kind.toNat ++ (numsTo m 15 ++ numB 1 (boolN m.good))).length = 122 by simp [numB_length, l15], ← a3] at k4
  have a4 : q4 u = ⟨123, 0, 0⟩ := by unfold q4; rw [k4]
  have k5 := rNum_at (u := u) (pre := numB 1 m.kind.toNat ++ (numsTo m 15 ++ (numB 1 (boolN m.good) ++ numB 1 m.op.toNat))) (w := 4) (v := m.err.toNat) (suf := numB 1 m.leader.toNat ++ (textB m.data ++ (numB 1 es.length ++ (entsTo es es.length ++ more)))) (by rw [hB]; simp) (by show _ < 4294967296; omega)
  rw [show (numB 1 m.kind.toNat ++ (numsTo m 15 ++ (numB 1 (boolN m.good) ++ numB 1 m.op.toNat))).length = 123 by simp [numB_length, l15], ← a4] at k5
  have a5 : q5 u = ⟨127, 0, 0⟩ := by unfold q5; rw [k5]
  have k6 := rNum_at (u := u) (pre := numB 1 m.kind.toNat ++ (numsTo m 15 ++ (numB 1 (boolN m.good) ++ (numB 1 m.op.toNat ++ numB 4 m.err.toNat)))) (w := 1) (v := m.leader.toNat) (suf := textB m.data ++ (numB 1 es.length ++ (entsTo es es.length ++ more))) (by rw [hB]; simp) (by show _ < 256; omega)
  rw [show (numB 1 m.kind.toNat ++ (numsTo m 15 ++ (numB 1 (boolN m.good) ++ (numB 1 m.op.toNat ++ numB 4 m.err.toNat)))).length = 127 by simp [numB_length, l15], ← a5] at k6
  have a6 : q6 u = ⟨128, 0, 0⟩ := by unfold q6; rw [k6]
  have k7 := rText_at (u := u) (pre := numB 1 m.kind.toNat ++ (numsTo m 15 ++ (numB 1 (boolN m.good) ++ (numB 1 m.op.toNat ++ (numB 4 m.err.toNat ++ numB 1 m.leader.toNat))))) (d := m.data) (most := 3500) (suf := numB 1 es.length ++ (entsTo es es.length ++ more)) (by rw [hB]; simp) (by omega) (by omega)
  rw [show (numB 1 m.kind.toNat ++ (numsTo m 15 ++ (numB 1 (boolN m.good) ++ (numB 1 m.op.toNat ++ (numB 4 m.err.toNat ++ numB 1 m.leader.toNat))))).length = 128 by simp [numB_length, l15], ← a6] at k7
  have a7 : q7 u = ⟨128 + (textB m.data).length, 0, 0⟩ := by unfold q7; rw [k7]
  have k8 := rNum_at (u := u) (pre := numB 1 m.kind.toNat ++ (numsTo m 15 ++ (numB 1 (boolN m.good) ++ (numB 1 m.op.toNat ++ (numB 4 m.err.toNat ++ (numB 1 m.leader.toNat ++ textB m.data)))))) (w := 1) (v := es.length) (suf := entsTo es es.length ++ more) (by rw [hB]; simp) (by show _ < 256; omega)
  rw [show (numB 1 m.kind.toNat ++ (numsTo m 15 ++ (numB 1 (boolN m.good) ++ (numB 1 m.op.toNat ++ (numB 4 m.err.toNat ++ (numB 1 m.leader.toNat ++ textB m.data)))))).length = 128 + (textB m.data).length by simp [numB_length, l15]; omega, ← a7] at k8
  have a8 : q8 u = ⟨129 + (textB m.data).length, 0, 0⟩ := by
    unfold q8; rw [k8]
    simp only [RS.mk.injEq, and_true]
    omega
  have am : manyOf u = es.length := by unfold manyOf; rw [k8]
  have ac : cntOf u = es.length := by unfold cntOf; rw [am]; split <;> omega
  have hP : (numB 1 m.kind.toNat ++ (numsTo m 15 ++ (midB m ++ numB 1 es.length))).length = 129 + (textB m.data).length := by
    unfold midB
    simp [numB_length, l15]; omega
  have ke : ∀ i (hi : i < es.length), rNum u 8 ⟨129 + (textB m.data).length + (entsTo es i).length, 0, 0⟩ = (es[i].1.toNat, ⟨129 + (textB m.data).length + (entsTo es i).length + 8, 0, 0⟩) ∧ rText u 3500 ⟨129 + (textB m.data).length + (entsTo es i).length + 8, 0, 0⟩ = (es[i].2, ⟨129 + (textB m.data).length + (entsTo es (i + 1)).length, 0, 0⟩) := by
    intro i hi
    obtain ⟨y, hy⟩ := entsTo_cons hi
    have he := hF.each _ (List.getElem_mem hi)
    have e1 := rNum_at (u := u) (pre := (numB 1 m.kind.toNat ++ (numsTo m 15 ++ (midB m ++ numB 1 es.length))) ++ entsTo es i) (w := 8) (v := es[i].1.toNat) (suf := textB es[i].2 ++ (y ++ more)) (by rw [hu]; unfold formM; rw [hy, entB]; simp) (by show _ < 18446744073709551616; omega)
    rw [List.length_append, hP] at e1
    have e2 := rText_at (u := u) (pre := ((numB 1 m.kind.toNat ++ (numsTo m 15 ++ (midB m ++ numB 1 es.length))) ++ entsTo es i) ++ numB 8 es[i].1.toNat) (d := es[i].2) (most := 3500) (suf := y ++ more) (by rw [hu]; unfold formM; rw [hy, entB]; simp) (by omega) (by omega)
    rw [List.length_append, List.length_append, hP, numB_length] at e2
    refine ⟨e1, ?_⟩
    rw [e2, entsTo_succ hi, entB]
    simp only [List.length_append, numB_length, Prod.mk.injEq, RS.mk.injEq, and_true, true_and]
    omega
  have aE : ∀ i, i ≤ es.length → eSt u (q8 u) i = ⟨129 + (textB m.data).length + (entsTo es i).length, 0, 0⟩ := by
    intro i
    induction i with
    | zero => intro _; rw [eSt, a8]; simp [entsTo]
    | succ i ih =>
      intro hi
      obtain ⟨e1, e2⟩ := ke i (by omega)
      rw [eSt, ih (by omega), e1]
      simp only [e2]
  refine ⟨by rw [k1]; simp only; omega, fun j => ?_, by rw [k3], by rw [k4]; simp only; omega, by rw [k5]; simp only; omega, by rw [k6]; simp only; omega, by rw [k7], am, fun i hi => ?_, ?_⟩
  · unfold rV
    rw [aS j.val (by have := j.isLt; omega), kn j.val j.isLt]
    have hr := hh.2.2.2.2.2.2 j
    have : numN m j.val = (m.nums j).toNat := numN_of m j.isLt
    simp only
    rw [this]
    omega
  · obtain ⟨e1, e2⟩ := ke i hi
    have he := hF.each _ (List.getElem_mem hi)
    unfold eV
    rw [aE i (by omega), e1]
    simp only [e2]
    exact ⟨by omega, trivial⟩
  · show eSt u (q8 u) (cntOf u) = _
    rw [ac, aE _ (Nat.le_refl _)]
    have : (formM m es).length = 129 + (textB m.data).length + (entsTo es es.length).length := by
      unfold formM midB
      simp [numB_length, l15]
      omega
    rw [this]
end
end Go.Proofs.Ytmibgiblejpgdaa
