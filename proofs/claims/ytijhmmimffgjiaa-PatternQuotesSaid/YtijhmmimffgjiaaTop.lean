/- What Quoted and Unquote come to on a text in quotes. -/
import Derived.Test.YtijhmmimffgjiaaQuoted
import Derived.Test.YtijhmmimffgjiaaAbs33
namespace Go.Proofs.Ytijhmmimffgjiaa
open Go.RowKit Abs

abbrev TSpot : Nat := 27
abbrev TRdr : Nat := 70
section
variable {call : CallF} {n : Nat} {h : AHeap}
theorem gnew {g : AHeap} {e : TypeId} {l : List AV} {b : Nat} (hb : b < g.next) : (newH g e l).get b = g.get b := get_new_other _ (by omega)
/-- what guard comes to with Quoted's function -/
def QG (call : CallF) : Prop := ∀ lo h b r p q x t e, Rdr lo h b (quoteB r) 0 → lo ≤ h.next → memB TBld h.ex = true → memB TU8 h.ex = false → r.length ≤ 1000000 →
  ldCell h (.ptr p 0) = some (.ptr b 0) → ldCell h (.ptr q 0) = some (.int .i64 (-1)) → h.get x = some (.row 1 t e) → x ≠ b → x < h.next → lo ≤ x → p < h.next → q < h.next →
  ∃ h', call 35 [.fn 36 [] [.ptr p 0, .ptr q 0, .ptr x 0]] h = some (.ret (.agg [.int .i64 0, .int .i64 0]), h') ∧ Rdr lo h' b (quoteB r) (quoteB r).length ∧ h'.get x = some (.row 1 (t.set 0 (strA r)) e) ∧ h.next ≤ h'.next ∧ h'.ex = h.ex ∧ ∀ d, d ≠ b → d ≠ x → d < h.next → h'.get d = h.get d
theorem get0 (t : T AV) (x y : AV) : (t.put 0 [x, y]).get 0 = some x := by rw [T.get_put]; rfl
theorem quotedT_F (hg : QG call) (r : Bytes) (hx : memB TBld h.ex = true) (hu : memB TU8 h.ex = false) (hr : r.length ≤ 1000000) :
    ∃ h', pattern_Quoted call n (quoteB r) (-1) h = some (.ret (.tup [strA r, .int .i64 ((quoteB r).length : Int), .agg [.int .i64 0, .int .i64 0]]), h') ∧ Above h h' := by
  obtain ⟨H1, hH1⟩ : ∃ H, newH h 3 [.int .i64 (-1)] = H := ⟨_, rfl⟩
  obtain ⟨H2, hH2⟩ : ∃ H, newH H1 9 [.str 0 0] = H := ⟨_, rfl⟩
  obtain ⟨H3, hH3⟩ : ∃ H, newH H2 TSpot [.int .i64 0, .int .i64 0] = H := ⟨_, rfl⟩
  obtain ⟨H4, hH4⟩ : ∃ H, newH H3 TRdr [strA (quoteB r), .int .i64 0] = H := ⟨_, rfl⟩
  obtain ⟨H5, hH5⟩ : ∃ H, newH H4 68 [.nilp] = H := ⟨_, rfl⟩
  have n1 : H1.next = h.next + 1 := by rw [← hH1]; rfl
  have n2 : H2.next = h.next + 2 := by rw [← hH2]; show H1.next + 1 = _; omega
  have n3 : H3.next = h.next + 3 := by rw [← hH3]; show H2.next + 1 = _; omega
  have n4 : H4.next = h.next + 4 := by rw [← hH4]; show H3.next + 1 = _; omega
  have n5 : H5.next = h.next + 5 := by rw [← hH5]; show H4.next + 1 = _; omega
  have x5 : H5.ex = h.ex := by rw [← hH5, ← hH4, ← hH3, ← hH2, ← hH1]; rfl
  have g5 : ∀ d, d < h.next + 4 → H5.get d = H4.get d := fun d hd => by rw [← hH5]; exact gnew (by omega)
  have g4 : ∀ d, d < h.next + 3 → H4.get d = H3.get d := fun d hd => by rw [← hH4]; exact gnew (by omega)
  have g3 : ∀ d, d < h.next + 2 → H3.get d = H2.get d := fun d hd => by rw [← hH3]; exact gnew (by omega)
  have g2 : ∀ d, d < h.next + 1 → H2.get d = H1.get d := fun d hd => by rw [← hH2]; exact gnew (by omega)
  have g1 : ∀ d, d < h.next → H1.get d = h.get d := fun d hd => by rw [← hH1]; exact gnew hd
  have c1 : H5.get h.next = some (rowOf [.int .i64 (-1)] 3) := by rw [g5 _ (by omega), g4 _ (by omega), g3 _ (by omega), g2 _ (by omega), ← hH1]; exact get_newH _ _ _
  have c2 : H5.get (h.next + 1) = some (rowOf [.str 0 0] 9) := by rw [g5 _ (by omega), g4 _ (by omega), g3 _ (by omega), ← n1, ← hH2]; exact get_newH _ _ _
  have c3 : H5.get (h.next + 2) = some (rowOf [.int .i64 0, .int .i64 0] TSpot) := by rw [g5 _ (by omega), g4 _ (by omega), ← n2, ← hH3]; exact get_newH _ _ _
  have c4 : H5.get (h.next + 3) = some (rowOf [strA (quoteB r), .int .i64 0] TRdr) := by rw [g5 _ (by omega), ← n3, ← hH4]; exact get_newH _ _ _
  have c5 : H5.get (h.next + 4) = some (rowOf [.nilp] 68) := by rw [← n4, ← hH5]; exact get_newH _ _ _
  have s5 : stRow H5 1 [.ptr (h.next + 3) 0] (.ptr (h.next + 4) 0) = some (H5.put (h.next + 4) (.row 1 ((T.put .e 0 [.nilp]).set 0 (.ptr (h.next + 3) 0)) 68)) := stRow_one c5 (by decide) rfl
  obtain ⟨H6, hH6⟩ : ∃ H, H5.put (h.next + 4) (.row 1 ((T.put .e 0 [.nilp]).set 0 (.ptr (h.next + 3) 0)) 68) = H := ⟨_, rfl⟩
  rw [hH6] at s5
  have n6 : H6.next = h.next + 5 := by rw [← hH6]; exact n5
  have x6 : H6.ex = h.ex := by rw [← hH6]; exact x5
  have g6 : ∀ d, d ≠ h.next + 4 → H6.get d = H5.get d := fun d hd => by rw [← hH6]; exact get_put_other _ (Ne.symm hd)
  have c6 : H6.get (h.next + 4) = some (.row 1 ((T.put .e 0 [.nilp]).set 0 (.ptr (h.next + 3) 0)) 68) := by rw [← hH6]; exact get_put_same _ _
  have d1 := (g6 h.next (by omega)).trans c1
  have d2 := (g6 (h.next + 1) (by omega)).trans c2
  have d3 := (g6 (h.next + 2) (by omega)).trans c3
  have d4 := (g6 (h.next + 3) (by omega)).trans c4
  have R6 : Rdr h.next H6 (h.next + 3) (quoteB r) 0 := ⟨_, d4, rfl, rfl, by omega, by omega⟩
  have l4 : ldCell H6 (.ptr (h.next + 4) 0) = some (.ptr (h.next + 3) 0) := by rw [ldCell_row c6]; exact T.get_set_same _ _ _
  have l0 : ldCell H6 (.ptr h.next 0) = some (.int .i64 (-1)) := by rw [ldCell_row d1]; rfl
  obtain ⟨H7, e7, R7, g7x, n7, x7, g7⟩ := hg h.next H6 (h.next + 3) r (h.next + 4) h.next (h.next + 1) _ _ R6 (by omega) (by rw [x6]; exact hx) (by rw [x6]; exact hu) hr l4 l0 d2 (by omega) (by omega) (by omega) (by omega) (by omega)
  have k3 := (g7 (h.next + 2) (by omega) (by omega) (by omega)).trans d3
  have k4 := (g7 (h.next + 4) (by omega) (by omega) (by omega)).trans c6
  have s7 := stRow_two (x := .int .i64 0) (y := .int .i64 0) k3 rfl rfl
  obtain ⟨H8, hH8⟩ : ∃ H, H7.put (h.next + 2) (.row 2 ((T.put .e 0 [.int .i64 0, .int .i64 0]).put 0 [.int .i64 0, .int .i64 0]) TSpot) = H := ⟨_, rfl⟩
  rw [hH8] at s7
  have g8 : ∀ d, d ≠ h.next + 2 → H8.get d = H7.get d := fun d hd => by rw [← hH8]; exact get_put_other _ (Ne.symm hd)
  have p2 : H8.get (h.next + 2) = some (.row 2 ((T.put .e 0 [.int .i64 0, .int .i64 0]).put 0 [.int .i64 0, .int .i64 0]) TSpot) := by rw [← hH8]; exact get_put_same _ _
  have p1 := (g8 (h.next + 1) (by omega)).trans g7x
  have p4 := (g8 (h.next + 4) (by omega)).trans k4
  obtain ⟨tr, r1, r2, r3, _, _⟩ := R7
  have p3 := (g8 (h.next + 3) (by omega)).trans r1
  have m2 : ldCell H8 (.ptr (h.next + 2) 0) = some (.int .i64 0) := by rw [ldCell_row p2]; exact get0 _ _ _
  have m1 : ldCell H8 (.ptr (h.next + 1) 0) = some (strA r) := by rw [ldCell_row p1]; exact T.get_set_same _ _ _
  have m4 : ldCell H8 (.ptr (h.next + 4) 0) = some (.ptr (h.next + 3) 0) := by rw [ldCell_row p4]; exact T.get_set_same _ _ _
  have m3 : ldCell H8 (.ptr (h.next + 3) (0 + 1)) = some (.int .i64 ((quoteB r).length : Int)) := by rw [ldCell_row p3]; exact r3
  have m22 := ldRow_two p2
  have s8 : stRow H8 1 [strA r] (.ptr (h.next + 1) 0) = _ := stRow_one p1 (by decide) rfl
  obtain ⟨H9, hH9⟩ : ∃ H, H8.put (h.next + 1) (.row 1 (((T.put .e 0 [.str 0 0]).set 0 (strA r)).set 0 (strA r)) 9) = H := ⟨_, rfl⟩
  rw [hH9] at s8
  have g9 : ∀ d, d ≠ h.next + 1 → H9.get d = H8.get d := fun d hd => by rw [← hH9]; exact get_put_other _ (Ne.symm hd)
  have q1 : H9.get (h.next + 1) = some (.row 1 (((T.put .e 0 [.str 0 0]).set 0 (strA r)).set 0 (strA r)) 9) := by rw [← hH9]; exact get_put_same _ _
  have q2 := (g9 (h.next + 2) (by omega)).trans p2
  have q3 := (g9 (h.next + 3) (by omega)).trans p3
  have q4 := (g9 (h.next + 4) (by omega)).trans p4
  have v2 := ldRow_two q2
  have v3 : ldCell H9 (.ptr (h.next + 3) (0 + 1)) = some (.int .i64 ((quoteB r).length : Int)) := by rw [ldCell_row q3]; exact r3
  have v4 : ldCell H9 (.ptr (h.next + 4) 0) = some (.ptr (h.next + 3) 0) := by rw [ldCell_row q4]; exact T.get_set_same _ _ _
  have s9 := stRow_two (x := .int .i64 0) (y := .int .i64 0) q2 rfl rfl
  obtain ⟨H10, hH10⟩ : ∃ H, H9.put (h.next + 2) (.row 2 (((T.put .e 0 [.int .i64 0, .int .i64 0]).put 0 [.int .i64 0, .int .i64 0]).put 0 [.int .i64 0, .int .i64 0]) TSpot) = H := ⟨_, rfl⟩
  rw [hH10] at s9
  have g10 : ∀ d, d ≠ h.next + 2 → H10.get d = H9.get d := fun d hd => by rw [← hH10]; exact get_put_other _ (Ne.symm hd)
  have y2 : H10.get (h.next + 2) = some (.row 2 (((T.put .e 0 [.int .i64 0, .int .i64 0]).put 0 [.int .i64 0, .int .i64 0]).put 0 [.int .i64 0, .int .i64 0]) TSpot) := by rw [← hH10]; exact get_put_same _ _
  have z1 : ldCell H10 (.ptr (h.next + 1) 0) = some (strA r) := by rw [ldCell_row ((g10 (h.next + 1) (by omega)).trans q1)]; exact T.get_set_same _ _ _
  have z2 := ldRow_two y2
  have b4 : opBox H3 TRdr (some (.agg [strA (quoteB r), .int .i64 0])) = some (.val (newP H3), newH H3 TRdr [strA (quoteB r), .int .i64 0]) := box_agg rfl
  have N1 : newP h = .ptr h.next 0 := rfl
  have N2 : newP H1 = .ptr (h.next + 1) 0 := by rw [← n1]; rfl
  have N3 : newP H2 = .ptr (h.next + 2) 0 := by rw [← n2]; rfl
  have N4 : newP H3 = .ptr (h.next + 3) 0 := by rw [← n3]; rfl
  have N5 : newP H4 = .ptr (h.next + 4) 0 := by rw [← n4]; rfl
  refine ⟨H10, ?_, ?_⟩
  · unfold pattern_Quoted
    rw [lett_eq, lett_eq, lett_eq, hH1, hH2, hH3, b4, outK_val, lett_eq, hH4, hH5, N4, N5, show (AV.ptr (h.next + 3) 0).cells = [.ptr (h.next + 3) 0] from rfl, s5, obind_val, N1, N2, e7, callN_ret, show avAgg (.agg [.int .i64 0, .int .i64 0]) = some [.int .i64 0, .int .i64 0] from rfl, obind_val, N3, s7, obind_val, n2, m2, obind_val, avInt_int, obind_val, lett_eq, show ((0 : Int) != 0) = false from rfl, ifB_false, m1, obind_val, avStr_str, obind_val, m4, obind_val, show nilC (.ptr (h.next + 3) 0) = some (.ptr (h.next + 3) 0) from rfl, obind_val, show fldP 1 (.ptr (h.next + 3) 0) = some (.ptr (h.next + 3) (0 + 1)) from rfl, obind_val, m3, obind_val, avInt_int, obind_val, m22, obind_val, s8, obind_val,
      reLoad_r (by kernel_rfl) (by kernel_rfl) v2, reLoad_c (by kernel_rfl) v3, reLoad_c (by kernel_rfl) v4]
    show obind (stRow H9 2 [.int .i64 0, .int .i64 0] (.ptr (h.next + 2) 0)) _ = _
    rw [s9, obind_val, z1, obind_val, z2, obind_val]
  · refine ⟨?_, ?_, fun d hd => ?_⟩
    · have a1 : H10.next = H7.next := by rw [← hH10, ← hH9, ← hH8]; rfl
      omega
    · have a1 : H10.ex = H7.ex := by rw [← hH10, ← hH9, ← hH8]; rfl
      rw [a1, x7, x6]
    · rw [g10 d (by omega), g9 d (by omega), g8 d (by omega), g7 d (by omega) (by omega) (by omega), g6 d (by omega), g5 d (by omega), g4 d (by omega), g3 d (by omega), g2 d (by omega), g1 d hd]
def QT (call : CallF) : Prop := ∀ h r, memB TBld h.ex = true → memB TU8 h.ex = false → r.length ≤ 1000000 → call 19 [strA (quoteB r), .int .i64 (-1)] h = some (.ret (.tup [strA r, .int .i64 ((quoteB r).length : Int), .agg [.int .i64 0, .int .i64 0]]), h)
theorem unquote_F (hq : QT call) (r : Bytes) (hx : memB TBld h.ex = true) (hu : memB TU8 h.ex = false) (hr : r.length ≤ 1000000) :
    ∃ h', pattern_Unquote call n (quoteB r) h = some (.ret (.tup [strA r, .agg [.int .i64 0, .int .i64 0]]), h') ∧ Above h h' := by
  obtain ⟨H1, hH1⟩ : ∃ H, newH h TSpot [.int .i64 0, .int .i64 0] = H := ⟨_, rfl⟩
  obtain ⟨H2, hH2⟩ : ∃ H, newH H1 TSpot [.int .i64 0, .int .i64 0] = H := ⟨_, rfl⟩
  have n1 : H1.next = h.next + 1 := by rw [← hH1]; rfl
  have n2 : H2.next = h.next + 2 := by rw [← hH2]; show H1.next + 1 = _; omega
  have x1 : H1.ex = h.ex := by rw [← hH1]; rfl
  have x2 : H2.ex = h.ex := by rw [← hH2]; exact x1
  have e1 := hq H1 r (by rw [x1]; exact hx) (by rw [x1]; exact hu) hr
  have c2 : H2.get (h.next + 1) = some (rowOf [.int .i64 0, .int .i64 0] TSpot) := by rw [← n1, ← hH2]; exact get_newH _ _ _
  have c1 : H2.get h.next = some (rowOf [.int .i64 0, .int .i64 0] TSpot) := by rw [← hH2, gnew (by omega), ← hH1]; exact get_newH _ _ _
  have s2 := stRow_two (x := .int .i64 0) (y := .int .i64 0) c2 rfl rfl
  obtain ⟨H3, hH3⟩ : ∃ H, H2.put (h.next + 1) (.row 2 ((T.put .e 0 [.int .i64 0, .int .i64 0]).put 0 [.int .i64 0, .int .i64 0]) TSpot) = H := ⟨_, rfl⟩
  rw [hH3] at s2
  have d2 : H3.get (h.next + 1) = some (.row 2 ((T.put .e 0 [.int .i64 0, .int .i64 0]).put 0 [.int .i64 0, .int .i64 0]) TSpot) := by rw [← hH3]; exact get_put_same _ _
  have d1 : H3.get h.next = _ := (show H3.get h.next = H2.get h.next by rw [← hH3]; exact get_put_other _ (by omega)).trans c1
  have m2 : ldCell H3 (.ptr (h.next + 1) 0) = some (.int .i64 0) := by rw [ldCell_row d2]; exact get0 _ _ _
  have N1 : newP H1 = .ptr (h.next + 1) 0 := by rw [← n1]; rfl
  have hlen : lenS (quoteB r) = ((quoteB r).length : Int) := lenS_nat _
  have s3 := stRow_two (x := .int .i64 0) (y := .int .i64 0) d1 rfl rfl
  have z3 := ldRow_two (get_put_same (H := H3) h.next (.row 2 ((T.put .e 0 [.int .i64 0, .int .i64 0]).put 0 [.int .i64 0, .int .i64 0]) TSpot))
  unfold pattern_Unquote
  rw [lett_eq, hH1, e1, callN_ret]
  simp only [extT_0, extT_1, show ∀ a b c : AV, extT 2 (.tup [a, b, c]) = some c from fun _ _ _ => rfl, obind_val, avStr_str, avInt_int, show ∀ l : List AV, avAgg (.agg l) = some l from fun _ => rfl, lett_eq, hH2]
  rw [N1, s2, obind_val, n1, m2, obind_val, avInt_int, obind_val, show ((0 : Int) != 0) = false from rfl, ifB_false, hlen, lt_false (Int.le_refl _), ifB_false]
  rw [show newP h = .ptr h.next 0 from rfl, s3, obind_val, z3, obind_val]
  refine ⟨_, rfl, ?_⟩
  refine ⟨?_, ?_, fun d hd => ?_⟩
  · have a1 : H3.next = H2.next := by rw [← hH3]; rfl
    show h.next ≤ H3.next
    omega
  · have a1 : H3.ex = H2.ex := by rw [← hH3]; rfl
    show H3.ex = _
    rw [a1, x2]
  · rw [get_put_other _ (by omega), ← hH3, get_put_other _ (by omega), ← hH2, gnew (by omega), ← hH1, gnew hd]
end
end Go.Proofs.Ytijhmmimffgjiaa
