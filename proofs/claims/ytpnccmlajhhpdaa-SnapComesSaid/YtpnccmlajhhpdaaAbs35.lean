/- Rows of bytes, and parts of them: copies, slices, texts. -/
import Derived.Test.YtpnccmlajhhpdaaAbs34
namespace Go.Proofs.Ytpnccmlajhhpdaa.Abs
noncomputable section
open Go.RowKit

/-- bytes with a part of them laid anew -/
def layB (l : Bytes) (o : Nat) (x : Bytes) : Bytes := l.take o ++ x ++ l.drop (o + x.length)
theorem layB_length {l x : Bytes} {o : Nat} (h : o + x.length ≤ l.length) : (layB l o x).length = l.length := by
  unfold layB
  simp only [List.length_append, List.length_take, List.length_drop]
  omega
theorem layB_get {l x : Bytes} {o : Nat} (ho : o + x.length ≤ l.length) (i : Nat) : (layB l o x)[i]? = if o ≤ i ∧ i < o + x.length then x[i - o]? else l[i]? := by
  unfold layB
  by_cases h1 : i < o
  · rw [if_neg (by omega), List.append_assoc, List.getElem?_append_left (by rw [List.length_take]; omega), List.getElem?_take_of_lt h1]
  · by_cases h2 : i < o + x.length
    · rw [if_pos ⟨by omega, h2⟩, List.append_assoc, List.getElem?_append_right (by rw [List.length_take]; omega), List.getElem?_append_left (by rw [List.length_take]; omega), List.length_take, Nat.min_eq_left (by omega)]
    · rw [if_neg (by omega), List.getElem?_append_right (by rw [List.length_append, List.length_take]; omega), List.getElem?_drop, List.length_append, List.length_take, Nat.min_eq_left (by omega), show o + x.length + (i - (o + x.length)) = i by omega]
theorem laid_bytes (l x : Bytes) (o : Nat) : laid (bytesC l) o (bytesC x) = bytesC (layB l o x) := by
  unfold laid layB
  rw [bytesC_append, bytesC_append, bytesC_length]
  simp only [bytesC, List.map_take, List.map_drop]
theorem laid_cons (a : AV) (l vs : List AV) (o : Nat) : laid (a :: l) (o + 1) vs = a :: laid l o vs := by
  unfold laid
  rw [show o + 1 + vs.length = (o + vs.length) + 1 by omega]
  rfl
theorem bytesC_take (l : Bytes) (n : Nat) : (bytesC l).take n = bytesC (l.take n) := by simp only [bytesC, List.map_take]
theorem bytesC_drop (l : Bytes) (n : Nat) : (bytesC l).drop n = bytesC (l.drop n) := by simp only [bytesC, List.map_drop]
theorem strCells_take : ∀ (l : Bytes) (n : Nat), n ≤ l.length → strCells n (enc l) = bytesC (l.take n)
  | _, 0, _ => by simp [strCells, bytesC]
  | [], n + 1, h => by simp at h
  | b :: l, n + 1, h => by
    have h1 : (b.toNat + 256 * enc l) % 256 = b.toNat := by have := b.toNat_lt; omega
    have h2 : (b.toNat + 256 * enc l) / 256 = enc l := by have := b.toNat_lt; omega
    rw [enc_cons, strCells, h1, h2, strCells_take l n (by simpa using h)]
    rfl
section
variable {P : Program} {h : AHeap} {b o n m sz : Nat} {t e e' : TypeId} {l cs : List AV} {src : AV}
theorem firstA_of_str {s : Bytes} (hn : n ≤ s.length) : firstA h 1 n (strA s) = some (bytesC (s.take n)) := by
  show (if Nat.ble n s.length = true ∧ 1 = 1 then some (strCells n (enc s)) else none) = _
  rw [if_pos ⟨Nat.ble_eq_true_of_le hn, rfl⟩, strCells_take s n hn]
theorem firstA_of_row (hn : n ≤ m) : firstA h sz n (.sl b o m sz) = rowGet h b o (n * sz) := by
  show (if sz = sz ∧ n ≤ m then rowGet h b o (n * sz) else none) = _
  rw [if_pos ⟨rfl, hn⟩]
/-- a copy into a part of a row -/
theorem copy_to (he : elemOf P t = some e) (hsz : P.cellsOf e = 1) (hi : (P.info? e).isSome = true) (hm : lenA src = some m) (hf : firstA h 1 (Nat.min m n) src = some cs) (hc : cs.length = Nat.min m n) (hone : cs.all AV.one = true) (k : RowH h b e' l) (ho : o + n ≤ l.length) :
    ∃ h', opCopy P h t (.sl b o n 1) src = some (.val (.int .i64 ((Nat.min m n : Nat) : Int)), h') ∧ RowH h' b e' (laid l o cs) ∧ h'.next = h.next ∧ h'.ex = h.ex ∧ ∀ i, i ≠ b → h'.get i = h.get i := by
  obtain ⟨h', a1, a2⟩ := k.put (o := o) (vs := cs) (by have : Nat.min m n ≤ n := Nat.min_le_right m n; omega) hone
  refine ⟨h', ?_, a2⟩
  have hl : lenA (.sl b o n 1) = some n := rfl
  simp only [opCopy, he, hl, hm, hsz, hf, hi, and_self, if_true, a1]
theorem copy_str {s : Bytes} (he : elemOf P t = some e) (hsz : P.cellsOf e = 1) (hi : (P.info? e).isSome = true) (k : RowH h b e' l) (ho : o + n ≤ l.length) :
    ∃ h', opCopy P h t (.sl b o n 1) (strA s) = some (.val (.int .i64 ((Nat.min s.length n : Nat) : Int)), h') ∧ RowH h' b e' (laid l o (bytesC (s.take (Nat.min s.length n)))) ∧ h'.next = h.next ∧ h'.ex = h.ex ∧ ∀ i, i ≠ b → h'.get i = h.get i := by
  have h1 : Nat.min s.length n ≤ s.length := Nat.min_le_left _ _
  exact copy_to he hsz hi rfl (firstA_of_str h1) (by rw [bytesC_length, List.length_take, Nat.min_eq_left h1]) (bytesC_one _) k ho
theorem copy_esl (he : elemOf P t = some e) (hi : (P.info? e).isSome = true) (hm : lenA src = some m) (hf : firstA h (P.cellsOf e) 0 src = some []) : opCopy P h t .esl src = some (.val (.int .i64 0), h) := by
  have hl : lenA .esl = some 0 := rfl
  have h0 : Nat.min m 0 = 0 := Nat.min_zero m
  simp only [opCopy, he, hl, hm, h0, hf, hi, if_true]
  rfl
theorem slice_arr {k1 k2 : IntKind} {l1 r1 : Nat} (hu : P.underlying t = some (.array n e)) (hi : (P.info? e).isSome = true) (hsz : P.cellsOf e = sz) (k : RowH h b e' l) (h1 : l1 ≤ r1) (h2 : r1 ≤ n) (h3 : o + n * sz ≤ l.length) (hne : ¬ (l1 = n ∧ 0 < l1)) :
    sliceA P h t (.ptr b o) (some (.int k1 (l1 : Int))) (some (.int k2 (r1 : Int))) = some (.val (.sl b (o + l1 * sz) (r1 - l1) sz), h) := by
  obtain ⟨tt, hg, _⟩ := k
  have b1 : boundA (some (AV.int k1 (l1 : Int))) 0 = some l1 := rfl
  have b2 : boundA (some (AV.int k2 (r1 : Int))) n = some r1 := rfl
  simp only [sliceA, hu, hi, if_true, b1, b2, sliceArr, hg, hsz]
  rw [if_pos ⟨Nat.ble_eq_true_of_le h1, Nat.ble_eq_true_of_le h2, Nat.ble_eq_true_of_le h3⟩, if_neg (fun hc => hne ⟨Nat.eq_of_beq_eq_true hc.1, Nat.le_of_ble_eq_true hc.2⟩)]
theorem slice_arr_all (hu : P.underlying t = some (.array n e)) (hi : (P.info? e).isSome = true) (hsz : P.cellsOf e = sz) (k : RowH h b e' l) (h3 : o + n * sz ≤ l.length) :
    sliceA P h t (.ptr b o) none none = some (.val (.sl b o n sz), h) := by
  obtain ⟨tt, hg, _⟩ := k
  have b1 : boundA none 0 = some 0 := rfl
  have b2 : boundA none n = some n := rfl
  simp only [sliceA, hu, hi, if_true, b1, b2, sliceArr, hg, hsz]
  rw [if_pos ⟨rfl, Nat.ble_eq_true_of_le (Nat.le_refl n), Nat.ble_eq_true_of_le h3⟩, if_neg (fun hc => by have := Nat.le_of_ble_eq_true hc.2; omega), Nat.zero_mul, Nat.add_zero, Nat.sub_zero]
/-- a slice from a place on -/
theorem slice_from {k1 : IntKind} {l1 : Nat} (he : elemOf P t = some e) (hi : (P.info? e).isSome = true) (hsz : P.cellsOf e = sz) (h1 : l1 ≤ m) (hne : ¬ (l1 = m ∧ 0 < l1)) :
    sliceA P h t (.sl b o m sz) (some (.int k1 (l1 : Int))) none = some (.val (.sl b (o + l1 * sz) (m - l1) sz), h) := by
  have b1 : boundA (some (AV.int k1 (l1 : Int))) 0 = some l1 := rfl
  have b2 : boundA none m = some m := rfl
  simp only [sliceA, sliceRow, b1, b2, he]
  rw [if_pos ⟨Nat.ble_eq_true_of_le h1, Nat.ble_eq_true_of_le (Nat.le_refl m), hsz.symm, hi⟩, if_neg (fun hc => hne ⟨Nat.eq_of_beq_eq_true hc.1, Nat.le_of_ble_eq_true hc.2⟩)]
theorem slice_end {k1 : IntKind} (he : elemOf P t = some e) (hi : (P.info? e).isSome = true) (hsz : P.cellsOf e = sz) (h0 : 0 < m) :
    sliceA P h t (.sl b o m sz) (some (.int k1 (m : Int))) none = some (.val .esl, h) := by
  have b1 : boundA (some (AV.int k1 (m : Int))) 0 = some m := rfl
  have b2 : boundA none m = some m := rfl
  simp only [sliceA, sliceRow, b1, b2, he]
  rw [if_pos ⟨Nat.ble_eq_true_of_le (Nat.le_refl m), Nat.ble_eq_true_of_le (Nat.le_refl m), hsz.symm, hi⟩, if_pos ⟨Nat.beq_refl m, Nat.ble_eq_true_of_le h0⟩]
/-- a text of a row of bytes -/
theorem conv_row {s d : TypeId} {x : Bytes} (hs : isBytes P s = true) (hd : isStr P d = true) (hr : rowGet h b o x.length = some (bytesC x)) : opConv P h s d (some (.sl b o x.length 1)) = some (.val (strA x), h) := by
  obtain ⟨w, h1, h2⟩ := bytesA_bytesC x
  unfold isStr at hd
  unfold isBytes at hs
  cases h3 : P.underlying d with
  | none => simp only [h3] at hd; cases hd
  | some ud =>
    cases ud <;> simp only [h3, reduceCtorEq] at hd
    cases h4 : P.underlying s with
    | none => simp only [h4] at hs; cases hs
    | some us =>
      cases us <;> simp only [h4, reduceCtorEq] at hs
      rename_i e
      cases h5 : P.underlying e with
      | none => simp only [h5] at hs; cases hs
      | some ue =>
        cases ue <;> simp only [h5, reduceCtorEq] at hs
        rename_i k
        cases k <;> simp only [reduceCtorEq] at hs
        simp only [opConv, convBytes, h3, h4, h5, hr, h1, if_true, h2]
theorem bytesC_zeros (n : Nat) : bytesC (List.replicate n 0) = List.replicate n (.int .u8 0) := by simp [bytesC]
/-- a new row of bytes -/
theorem make_bytes {k1 k2 : IntKind} (he : elemOf P t = some e) (hz : zeroA P e = some (.int .u8 0)) (hsz : P.cellsOf e = 1) (hfit : fitB P e 1 = true) (hex : memB e h.ex = false) (h1 : n ≤ m) (h2 : m ≤ 1000000000) :
    opMakeSlice P h t (some (.int k1 (n : Int))) (some (.int k2 (m : Int))) = some (.val (.sl h.next 0 n 1), newH h e (bytesC (List.replicate m 0))) := by
  have hf : bytesFit P e m = true := bytesFit_of hfit (by omega) h2
  have hc : (List.replicate m (AV.int .u8 0).cells).flatten = bytesC (List.replicate m 0) := by
    rw [bytesC_zeros]
    show (List.replicate m [AV.int .u8 0]).flatten = _
    clear hf h1 h2
    induction m with
    | zero => rfl
    | succ m ih => rw [List.replicate_succ, List.replicate_succ, List.flatten_cons, ih]; rfl
  show (match elemOf P t with | some e => (match zeroA P e with | some z => if Nat.ble n m = true ∧ bytesFit P e m = true then outNewS h e (List.replicate m z.cells).flatten n (P.cellsOf e) else none | none => none) | none => none) = _
  simp only [he, hz]
  rw [if_pos ⟨Nat.ble_eq_true_of_le h1, hf⟩, hc, hsz]
  unfold outNewS
  rw [if_pos ⟨bytesC_one _, hex⟩]
  rfl
end
end
end Go.Proofs.Ytpnccmlajhhpdaa.Abs
