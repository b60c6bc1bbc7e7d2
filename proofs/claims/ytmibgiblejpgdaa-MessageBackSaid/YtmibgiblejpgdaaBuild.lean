/- Builders: what their methods come to. -/
import Derived.Test.YtmibgiblejpgdaaGeP
import Derived.Test.YtmibgiblejpgdaaAbs36
namespace Go.Proofs.Ytmibgiblejpgdaa
open Go.RowKit Abs

abbrev TBld : Nat := 53
abbrev TU8 : Nat := 5
abbrev BldA (lo : Nat) (h : AHeap) (b : Nat) (l : Bytes) : Prop := Bld TBld TU8 lo h b l

section
variable {call : CallF} {n lo : Nat} {h : AHeap} {b : Nat} {l : Bytes}
theorem eql_nil_nil (h : AHeap) : opBin Try.prog h .eql 51 true (some .nilp) (some .nilp) = some (.val (.bool true), h) := by kernel_rfl
theorem eql_ptr_nil (h : AHeap) (b : Nat) : opBin Try.prog h .eql 51 true (some (.ptr b 0)) (some .nilp) = some (.val (.bool false), h) := by kernel_rfl
theorem noEscape_ptr (h : AHeap) (b : Nat) : externA Try.prog h 53 [.ptr b 0] = some (.val (.ptr b 0), h) := by kernel_rfl
theorem binV_same (P : Program) (h : AHeap) (op : BinOp) (t : TypeId) (lit : Bool) (b o o' : Nat) : opBinV P h op t lit (some (.ptr b o)) (some (.ptr b o')) = opBin P h op t lit (some (.ptr b o)) (some (.ptr b o')) := by
  have hb : Nat.beq b b = true := Nat.beq_refl b
  simp only [opBinV, apartPtr, hb, Bool.not_true, Bool.false_and, Bool.and_false]
theorem conv_there {t : T AV} (hb : h.get b = some (.row 2 t TBld)) : opConv Try.prog h 51 99 (some (.ptr b 0)) = some (.val (.ptr b 0), h) :=
  conv_unsafe (k := 1) (by kernel_rfl) (by kernel_rfl) hb
theorem conv_back {t : T AV} (hb : h.get b = some (.row 2 t TBld)) (hx : memB TBld h.ex = true) : opConv Try.prog h 99 51 (some (.ptr b 0)) = some (.val (.ptr b 0), h) :=
  conv_safe (u := TBld) (by kernel_rfl) (by kernel_rfl) hb hx (by kernel_rfl)
theorem neq_same (h : AHeap) (b : Nat) : opBin Try.prog h .neq 51 false (some (.ptr b 0)) (some (.ptr b 0)) = some (.val (.bool false), h) :=
  neq_self (u := TBld) (by kernel_rfl)
theorem copyCheck_F (hB : BldA lo h b l) (hx : memB TBld h.ex = true) : ∃ h', strings_Builder_copyCheck call n (.ptr b 0) h = some (.ret (.tup []), h') ∧ BldA lo h' b l ∧ Ab lo h h' := by
  obtain ⟨t, a, buf, hb, ha0, ha1, ha, hlo, hlt, hbuf⟩ := hB
  have e1 : ldCell h (.ptr b (0 + 0)) = some a := by rw [ldCell_row hb]; exact ha0
  have n1 : nilC (.ptr b 0) = some (.ptr b 0) := rfl
  have f1 : fldP 0 (.ptr b 0) = some (.ptr b (0 + 0)) := rfl
  unfold strings_Builder_copyCheck
  rw [n1, obind_val, f1, obind_val, e1, obind_val]
  rcases ha with rfl | rfl
  · have e4 : stRow h 1 [.ptr b 0] (.ptr b (0 + 0)) = some (h.put b (.row 2 (t.set 0 (.ptr b 0)) TBld)) := stRow_one hb (by decide) rfl
    have c1 : AV.cells (.ptr b 0) = [.ptr b 0] := rfl
    rw [eql_nil_nil, outK_val, avBool_bool, obind_val, lett_eq, ifB_true, conv_there hb, outK_val, noEscape_ptr, outK_val, conv_back hb hx, outK_val, c1, obind_val, f1, obind_val, e4, obind_val]
    refine ⟨_, rfl, ⟨t.set 0 (.ptr b 0), .ptr b 0, buf, get_put_same _ _, T.get_set_same _ _ _, by rw [T.get_set_other _ _ (by decide)]; exact ha1, .inr rfl, hlo, hlt, ?_⟩, (Ab.refl lo h).put hlo _⟩
    rcases hbuf with hbuf | ⟨c, k1, k0, k2, k3, k4, k5, k6⟩
    · exact .inl hbuf
    · exact .inr ⟨c, k1, k0, k2, k3, k4, by rw [rowGet_put_other (Ne.symm k3)]; exact k5, by rw [rowType_put_other (Ne.symm k3)]; exact k6⟩
  · rw [eql_ptr_nil, outK_val, avBool_bool, obind_val, lett_eq, ifB_false, obind_val, f1, obind_val, e1, obind_val, binV_same, neq_same, outK_val, avBool_bool, obind_val, ifB_false]
    exact ⟨_, rfl, ⟨t, _, buf, hb, ha0, ha1, .inr rfl, hlo, hlt, hbuf⟩, Ab.refl lo h⟩
/-- what the calls of copyCheck come to -/
def CC (call : CallF) : Prop := ∀ lo h b l, BldA lo h b l → memB TBld h.ex = true → ∃ h', call 43 [.ptr b 0] h = some (.ret (.tup []), h') ∧ BldA lo h' b l ∧ Ab lo h h'
theorem writeString_F (hc : CC call) (hB : BldA lo h b l) (hx : memB TBld h.ex = true) (hu : memB TU8 h.ex = false) (s : Bytes) (hbig : l.length + s.length ≤ 1000000000) :
    ∃ h', strings_Builder_WriteString call n (.ptr b 0) s h = some (.ret (.tup [.int .i64 (lenS s), .nifc]), h') ∧ BldA lo h' b (l ++ s) ∧ Ab lo h h' := by
  obtain ⟨h1, e1, hB1, hA1⟩ := hc lo h b l hB hx
  have n1 : nilC (.ptr b 0) = some (.ptr b 0) := rfl
  have f1 : fldP 1 (.ptr b 0) = some (.ptr b (0 + 1)) := rfl
  have hu1 : memB TU8 h1.ex = false := by rw [hA1.ex]; exact hu
  unfold strings_Builder_WriteString
  rw [e1, callN_ret, n1, obind_val, f1, obind_val]
  cases s with
  | nil =>
    obtain ⟨buf, buf', h2, h3, k1, k2, k3, k4, k5⟩ := bld_append0 (P := Try.prog) (t := 37) (u := 9) hB1 (by kernel_rfl) (by kernel_rfl) (by kernel_rfl) (by kernel_rfl) hu1 (by simp only [List.length_nil] at hbig; omega)
    rw [k1, obind_val, k2, outK_val, obind_val, f1, obind_val, k3, obind_val]
    exact ⟨_, rfl, by rw [List.append_nil]; exact k4, hA1.trans k5⟩
  | cons x s =>
    obtain ⟨buf, buf', h2, h3, k1, k2, k3, k4, k5⟩ := bld_append (P := Try.prog) (t := 37) (u := 9) (x := strA (x :: s)) (l2 := x :: s) hB1 (by kernel_rfl) (by kernel_rfl) (by kernel_rfl) (by kernel_rfl) hu1 rfl rfl (firstA_str (x :: s)) hbig
    rw [k1, obind_val, k2, outK_val, obind_val, f1, obind_val, k3, obind_val]
    exact ⟨_, rfl, k4, hA1.trans k5⟩
theorem bldSl_one (h : AHeap) (v : Int) (hu : memB TU8 h.ex = false) : bldSl Try.prog h 37 1 [(0, .int .u8 v)] = some (.val (.sl h.next 0 1 1), newH h TU8 [.int .u8 v]) := by
  have e1 : bldSl Try.prog h 37 1 [(0, .int .u8 v)] = outNewS h TU8 [.int .u8 v] 1 1 := by kernel_rfl
  rw [e1]
  unfold outNewS
  rw [if_pos ⟨rfl, hu⟩]
  rfl
theorem string_F (hB : BldA lo h b l) (hbig : l.length ≤ 1000000000) : ∃ h', strings_Builder_String call n (.ptr b 0) h = some (.ret (strA l), h') ∧ Ab lo h h' := by
  obtain ⟨t, a, buf, hb, ha0, ha1, ha, hlo, hlt, hbuf⟩ := hB
  have n1 : nilC (.ptr b 0) = some (.ptr b 0) := rfl
  have f1 : fldP 1 (.ptr b 0) = some (.ptr b (0 + 1)) := rfl
  have e1 : ldCell h (.ptr b (0 + 1)) = some buf := by rw [ldCell_row hb]; exact ha1
  have r1 : reLoad Try.prog h 37 (.ptr b (0 + 1)) buf = true := reLoad_cell (by kernel_rfl) e1 (by rcases hbuf with ⟨rfl, _⟩ | ⟨c, rfl, _⟩; exact same_nsl; exact same_sl _ _ _ _)
  unfold strings_Builder_String
  rw [n1, obind_val, f1, obind_val, e1, obind_val, obind_val, f1, obind_val, e1, obind_val]
  rcases hbuf with ⟨rfl, rfl⟩ | ⟨c, rfl, k0, k1, k2, k3, k4, k5⟩
  · have l1 : lenL .nsl = some 0 := rfl
    have d1 : opSliceData h .nsl = some (.val .nilp, h) := rfl
    have u1 : opUnsafeStr Try.prog h 93 .nilp (.int .i64 0) = some (.val (strA []), h) := rfl
    rw [l1, obind_val, d1, outK_val, r1, Bool.and_self, Bool.and_self, chk_true, u1, outK_val, avStr_str, obind_val]
    exact ⟨_, rfl, Ab.refl lo h⟩
  · have l1 : lenL (.sl c 0 l.length 1) = some (l.length : Int) := rfl
    have d1 : opSliceData h (.sl c 0 l.length 1) = some (.val (.ptr c 0), h) := by
      cases l with
      | nil => exact absurd rfl k0
      | cons x l => rfl
    have u1 : opUnsafeStr Try.prog h 93 (.ptr c 0) (.int .i64 (l.length : Int)) = some (.val (strA l), h.put c .dead) := unsafeStr_row (by kernel_rfl) k0 hbig k4 k5
    rw [l1, obind_val, d1, outK_val, r1, Bool.and_self, Bool.and_self, chk_true, u1, outK_val, avStr_str, obind_val]
    exact ⟨_, rfl, (Ab.refl lo h).put k1 _⟩
end
end Go.Proofs.Ytmibgiblejpgdaa
