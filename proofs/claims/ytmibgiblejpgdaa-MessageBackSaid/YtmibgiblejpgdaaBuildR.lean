/- Builders: what their methods come to, and which blocks they turn. (World: Ww; Build's facts about the operations.) -/
import Derived.Test.YtmibgiblejpgdaaBuild
import Derived.Test.YtmibgiblejpgdaaWw
import Derived.Test.YtmibgiblejpgdaaAbs48
namespace Go.Proofs.Ytmibgiblejpgdaa
open Go.RowKit Abs

abbrev BldW (h : AHeap) (b c : Nat) (l : Bytes) : Prop := BldR TBld TU8 h b c l
section
variable {n d b c : Nat} {h : AHeap} {l : Bytes} {Q : ARes → AHeap → Prop}
theorem copyCheck_r (k : BldW h b c l) (hx : memB TBld h.ex = true) : ∃ h', world n (d + 1) 43 [.ptr b 0] h = some (.ret (.tup []), h') ∧ BldW h' b c l ∧ Tch [b] h h' := by
  obtain ⟨a, buf, k1, k2, k3, k4⟩ := k
  apply Wp.ex
  rw [w_strings_Builder_copyCheck]
  unfold strings_Builder_copyCheck
  repeat (((with_reducible apply Wp.obind); first | (with_reducible first | exact nilC_ptr _ _ | exact fldP_ptr _ _ _) | ((with_reducible apply RowH.cell'); (with_reducible assumption); rfl)))
  rcases k3 with rfl | rfl
  · refine Wp.outK (eql_nil_nil h) ?_
    repeat (first | (with_reducible refine Wp.join0 (fun _ _ => ?_)) | ((with_reducible apply Wp.obind); (with_reducible exact avBool_bool _)) | ((with_reducible refine Wp.ift ?_ ?_); (with_reducible rfl)))
    have k1' := k1
    obtain ⟨t, g1, _⟩ := k1'
    refine Wp.outK (conv_there g1) ?_
    refine Wp.outK (noEscape_ptr h b) ?_
    refine Wp.outK (conv_back g1 hx) ?_
    repeat (((with_reducible apply Wp.obind); (with_reducible first | exact nilC_ptr _ _ | exact fldP_ptr _ _ _)))
    refine Wp.st1 k1 (by simp) rfl (fun h' q1 q2 q3 => ?_)
    repeat ((with_reducible refine Wp.go0 (by assumption) ?_))
    exact Wp.ret ⟨rfl, ⟨_, buf, q1, by omega, .inr rfl, k4.tch q2 (fun hc => by simpa using hc)⟩, q2⟩
  · refine Wp.outK (eql_ptr_nil h b) ?_
    repeat (first | (with_reducible refine Wp.join0 (fun _ _ => ?_)) | ((with_reducible apply Wp.obind); first | (with_reducible first | exact avBool_bool _ | exact nilC_ptr _ _ | exact fldP_ptr _ _ _) | ((with_reducible apply RowH.cell'); (with_reducible assumption); rfl)) | ((with_reducible refine Wp.iff ?_ ?_); (with_reducible rfl)))
    refine Wp.outK ((binV_same _ _ _ _ _ _ _ _).trans (neq_same h b)) ?_
    repeat (first | ((with_reducible apply Wp.obind); (with_reducible exact avBool_bool _)) | ((with_reducible refine Wp.iff ?_ ?_); (with_reducible rfl)) | (with_reducible refine Wp.go0 (by assumption) ?_))
    exact Wp.ret ⟨rfl, ⟨_, buf, k1, k2, .inr rfl, k4⟩, Tch.refl _ _⟩
theorem writeString_r (k : BldW h b c l) (hx : memB TBld h.ex = true) (hu : memB TU8 h.ex = false) (s : Bytes) (hbig : l.length + s.length ≤ 1000000000) :
    ∃ v c' h', world n (d + 2) 21 [.ptr b 0, strA s] h = some (.ret v, h') ∧ BldW h' b c' (l ++ s) ∧ (c' = c ∨ h.next ≤ c') ∧ Tch [b, c] h h' := by
  obtain ⟨h1, e1, q1, t1⟩ := copyCheck_r (n := n) (d := d) k hx
  suffices hK : Wp (world n (d + 2) 21 [.ptr b 0, strA s] h) fun r h' => ∃ v c', r = .ret v ∧ BldW h' b c' (l ++ s) ∧ (c' = c ∨ h.next ≤ c') ∧ Tch [b, c] h h' by
    obtain ⟨_, h', e, v, c', rfl, q⟩ := hK
    exact ⟨v, c', h', e, q⟩
  rw [w_strings_Builder_WriteString]
  unfold strings_Builder_WriteString
  refine Wp.callN e1 ?_
  obtain ⟨a, buf, k1, k2, k3, k4⟩ := q1
  repeat (((with_reducible apply Wp.obind); first | (with_reducible first | exact nilC_ptr _ _ | exact fldP_ptr _ _ _) | ((with_reducible apply RowH.cell'); (with_reducible assumption); rfl)))
  obtain ⟨buf', c', h2, a1, a2, a3, a4, a5⟩ := k4.append (P := Try.prog) (t := 37) (u := 9) k2 s (by kernel_rfl) (by kernel_rfl) (by kernel_rfl) (by kernel_rfl) (by rw [t1.2.1]; exact hu) hbig
  refine Wp.outK a1 ?_
  have k2' : RowH h2 b TBld [a, buf] := k1.same a5
  obtain ⟨o1, o2, _⟩ := a2.one
  rw [o2]
  repeat (((with_reducible apply Wp.obind); (with_reducible first | exact nilC_ptr _ _ | exact fldP_ptr _ _ _)))
  refine Wp.st1 k2' (by simp) o1 (fun h3 r1 r2 r3 => ?_)
  have n1 := t1.1
  have n2 := a4.1
  refine Wp.ret ⟨_, c', rfl, ⟨a, buf', r1, by omega, k3, a2.tch r2 (fun hc => by simpa using hc)⟩, by omega, ?_⟩
  exact (t1.mono (by simp)).trans ((a4.mono (by simp)).trans (r2.mono (by simp)))
theorem string_r (k : BldW h b c l) (hbig : l.length ≤ 1000000000) : ∃ h', world n (d + 1) 28 [.ptr b 0] h = some (.ret (strA l), h') ∧ Tch [b, c] h h' := by
  obtain ⟨a, buf, k1, k2, k3, k4⟩ := k
  apply Wp.ex
  rw [w_strings_Builder_String]
  unfold strings_Builder_String
  repeat (((with_reducible apply Wp.obind); first | (with_reducible first | exact nilC_ptr _ _ | exact fldP_ptr _ _ _) | ((with_reducible apply RowH.cell'); (with_reducible assumption); rfl)))
  refine Wp.obind k4.one.2.2 ?_
  rcases k4 with ⟨rfl, rfl, rfl⟩ | ⟨rfl, g0, g1, g2, g3⟩
  · refine Wp.outK (show opSliceData h .nsl = some (.val .nilp, h) from rfl) ?_
    refine Wp.chk (by rw [reLoad_cell (P := Try.prog) (ty := 37) (by kernel_rfl) (k1.cell' rfl) same_nsl]; rfl) ?_
    refine Wp.outK (show opUnsafeStr Try.prog h 93 .nilp (.int .i64 0) = some (.val (strA []), h) from rfl) ?_
    repeat (((with_reducible apply Wp.obind); (with_reducible exact avStr_str _)))
    exact Wp.ret ⟨rfl, Tch.refl _ _⟩
  · have d1 : opSliceData h (.sl c 0 l.length 1) = some (.val (.ptr c 0), h) := by
      cases l with
      | nil => exact absurd rfl g0
      | cons x l => rfl
    refine Wp.outK d1 ?_
    refine Wp.chk (by rw [reLoad_cell (P := Try.prog) (ty := 37) (by kernel_rfl) (k1.cell' rfl) (same_sl _ _ _ _)]; rfl) ?_
    have g4 := g3.part (o := 0) (n := (bytesC l).length) (by omega)
    rw [List.drop_zero, List.take_length, bytesC_length] at g4
    refine Wp.outK (unsafeStr_row (by kernel_rfl) g0 hbig g4 g3.type) ?_
    repeat (((with_reducible apply Wp.obind); (with_reducible exact avStr_str _)))
    exact Wp.ret ⟨rfl, Tch.put (.inl (by simp)) _⟩
end
end Go.Proofs.Ytmibgiblejpgdaa
