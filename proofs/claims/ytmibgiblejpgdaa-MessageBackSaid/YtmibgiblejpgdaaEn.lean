/- What a message's bytes are: the program's writing. -/
import Derived.Test.YtmibgiblejpgdaaFoA
import Derived.Test.YtmibgiblejpgdaaNum
import Derived.Test.YtmibgiblejpgdaaBuildR
namespace Go.Proofs.Ytmibgiblejpgdaa
open Go.RowKit Abs

def numN (m : Ms) (i : Nat) : Nat := if h : i < 15 then (m.nums ⟨i, h⟩).toNat else 0
theorem numN_of (m : Ms) {i : Nat} (h : i < 15) : numN m i = (m.nums ⟨i, h⟩).toNat := by unfold numN; rw [dif_pos h]
def numsTo (m : Ms) : Nat → Bytes
  | 0 => []
  | i + 1 => numsTo m i ++ numB 8 (numN m i)
def entB (e : Int × Bytes) : Bytes := numB 8 e.1.toNat ++ textB e.2
def entsTo (es : List (Int × Bytes)) (i : Nat) : Bytes := ((es.take i).map entB).flatten
theorem entsTo_succ {es : List (Int × Bytes)} {i : Nat} (h : i < es.length) : entsTo es (i + 1) = entsTo es i ++ entB es[i] := by
  unfold entsTo
  rw [List.take_succ_eq_append_getElem h, List.map_append, List.flatten_append]
  simp
def boolN (b : Bool) : Nat := if b then 1 else 0
def midB (m : Ms) : Bytes := numB 1 (boolN m.good) ++ numB 1 m.op.toNat ++ numB 4 m.err.toNat ++ numB 1 m.leader.toNat ++ textB m.data
def formM (m : Ms) (es : List (Int × Bytes)) : Bytes := numB 1 m.kind.toNat ++ numsTo m 15 ++ midB m ++ numB 1 es.length ++ entsTo es es.length
theorem numsTo_length (m : Ms) : ∀ i, (numsTo m i).length = 8 * i
  | 0 => rfl
  | i + 1 => by rw [numsTo, List.length_append, numsTo_length m i, numB_length]; omega
theorem textB_length (s : Bytes) : (textB s).length = 4 + s.length := by unfold textB; rw [List.length_append, numB_length]
section
variable {n d b c c0 cr : Nat} {h : AHeap} {l : Bytes} {ss : List Bytes} {Q : ARes → AHeap → Prop}
theorem dyn20 (call : CallF) (b : Nat) (v : AV) (h : AHeap) : dynC Try.prog call (AV.fn 20 [] [.ptr b 0]) [v] h = call 20 [v, .ptr b 0] h := by
  have e : callV Try.prog h [v] (some (AV.fn 20 [] [.ptr b 0])) = some (.call 20 [v, .ptr b 0], h) := by kernel_rfl
  unfold dynC
  rw [e]
/-- a row of texts -/
noncomputable def strsC (ss : List Bytes) : List AV := ss.map strA
theorem put_loop {k4 : AHeap → R} (hk : k4 = fun h_5 => some (.ret (.tup []), h_5)) (hss : ss.length ≤ 1000000) (hc0 : cr ≠ b) {h0 : AHeap} (hcr : cr < h0.next) (hbn : b < h0.next) :
    ∀ (f i c : Nat) (h : AHeap), ss.length < f + i → i ≤ ss.length → RowH h cr 9 (strsC ss) → BldW h b c (l ++ (ss.take i).flatten) → cr ≠ c → memB TBld h.ex = true → memB TU8 h.ex = false → (l ++ ss.flatten).length ≤ 1000000000 → Tch [b, c0] h0 h → (c = c0 ∨ h0.next ≤ c) →
      Wp (message_Encode_1_L0 (world n (d + 2)) (.sl cr 0 ss.length 1) (.ptr b 0) (ss.length : Int) k4 f (i : Int) h) fun r h' => r = .ret (.tup []) ∧ ∃ c', BldW h' b c' (l ++ ss.flatten) ∧ (c' = c0 ∨ h0.next ≤ c') ∧ Tch [b, c0] h0 h'
  | 0, i, c, h, h1, h2, _, _, _, _, _, _, _, _ => by omega
  | f + 1, i, c, h, h1, h2, hr, hB, hcc, hx, hu, hbig, ht, hc => by
    rw [message_Encode_1_L0_s]
    unfold message_Encode_1_L0b
    by_cases hi : i < ss.length
    · have ei := idxP_sl (sz := 1) (b := cr) (o := 0) (k := 1) hi
      rw [Nat.zero_add, Nat.mul_one] at ei
      have hcell : (strsC ss)[i]? = some (strA ss[i]) := by unfold strsC; rw [List.getElem?_map, List.getElem?_eq_getElem hi]; rfl
      have el := hr.cell' hcell
      have hsplit : ss.flatten = (ss.take i).flatten ++ (ss[i] ++ (ss.drop (i + 1)).flatten) := by
        rw [← List.flatten_cons, ← List.drop_eq_getElem_cons hi, ← List.flatten_append, List.take_append_drop]
      obtain ⟨v, c', h3, e3, q1, q2, q3⟩ := writeString_r (n := n) (d := d) hB hx hu ss[i] (by rw [hsplit] at hbig; simp only [List.length_append] at hbig ⊢; omega)
      repeat (first | ((with_reducible refine Wp.lettw ?_ ?_ ?_); omega; omega) | (with_reducible refine Wp.lett ?_) | ((with_reducible apply Wp.obind); (with_reducible first | exact avStr_str _ | assumption)) | ((with_reducible refine Wp.ift ?_ ?_); ((with_reducible apply decide_eq_true); omega)) | ((with_reducible apply Wp.callN); (with_reducible exact e3)))
      have hl := q3.1
      have hn0 := ht.1
      have hcrn : cr < h.next := by omega
      rw [show (i : Int) + 1 = ((i + 1 : Nat) : Int) by omega]
      refine put_loop hk hss hc0 hcr hbn f (i + 1) c' h3 (by omega) (by omega) (hr.tch q3 hcrn (by simp; exact ⟨hc0, hcc⟩)) ?_ (by omega) (by rw [q3.2.1]; exact hx) (by rw [q3.2.1]; exact hu) hbig (ht.trans' q3 (by
        intro x hx
        simp only [List.mem_cons, List.not_mem_nil, or_false] at hx ⊢
        omega)) (by omega)
      rw [List.take_succ_eq_append_getElem hi, List.flatten_append, ← List.append_assoc]
      simpa using q1
    · have : ss.take i = ss := List.take_of_length_le (by omega)
      rw [this] at hB
      repeat (first | (with_reducible refine Wp.lett ?_) | ((with_reducible refine Wp.iff ?_ ?_); ((with_reducible apply decide_eq_false); omega)) | (with_reducible refine Wp.go0 (by assumption) ?_))
      exact Wp.ret ⟨rfl, c, hB, hc, ht⟩
/-- texts put behind what is there -/
theorem put_w (hn : ss.length < n) (hss : ss.length ≤ 1000000) (k : BldW h b c l) (hr : RowH h cr 9 (strsC ss)) (hcr : cr < h.next) (h1 : cr ≠ b) (h2 : cr ≠ c) (hx : memB TBld h.ex = true) (hu : memB TU8 h.ex = false) (hbig : (l ++ ss.flatten).length ≤ 1000000000) :
    Wp (dynC Try.prog (world n (d + 3)) (AV.fn 20 [] [.ptr b 0]) [.sl cr 0 ss.length 1] h) fun r h' => r = .ret (.tup []) ∧ ∃ c', BldW h' b c' (l ++ ss.flatten) ∧ (c' = c ∨ h.next ≤ c') ∧ Tch [b, c] h h' := by
  rw [dyn20, w_message_Encode_1]
  unfold message_Encode_1
  refine Wp.obind (show lenL (.sl cr 0 ss.length 1) = some (ss.length : Int) from rfl) ?_
  repeat ((with_reducible refine Wp.join0 (fun _ _ => ?_)))
  rename_i k4 hk4
  exact put_loop hk4 hss h1 hcr k.lt.1 n 0 c h (by omega) (by omega) hr (by simpa using k) h2 hx hu hbig (Tch.refl _ _) (.inl rfl)
end
end Go.Proofs.Ytmibgiblejpgdaa
