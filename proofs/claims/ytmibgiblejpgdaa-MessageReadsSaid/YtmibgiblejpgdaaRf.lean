/- Readers of bytes: the document's. -/
import Derived.Test.YtmibgiblejpgdaaRy
import Derived.Test.YtmibgiblejpgdaaAbs51
namespace Go.Proofs.Ytmibgiblejpgdaa
open Go.RowKit Abs
section
variable {n d b : Nat} {h : AHeap} {s : Bytes} {r : RS} {Q : ARes → AHeap → Prop}
theorem rnum_loop {w : Nat} (k : RR h b s r) (hw : w ≤ 8) (hp : r.p + w ≤ s.length) (hs : s.length ≤ 1000000) {k40 : Int → AHeap → R} (hk : Wp (k40 (valB ((s.drop r.p).take w) : Int) h) Q) :
    ∀ (f i : Nat), w < f + i → i ≤ w → Wp (ref01_Reader_Number_L0 (.ptr b 0) (w : Int) k40 f (valB ((s.drop r.p).take i) : Int) (i : Int) h) Q
  | 0, i, h1, h2 => by omega
  | f + 1, i, h1, h2 => by
    rw [ref01_Reader_Number_L0_s]
    unfold ref01_Reader_Number_L0b
    by_cases hi : i < w
    · have hv : valB ((s.drop r.p).take i) < 72057594037927936 := Nat.lt_of_lt_of_le valB_le8 (pow_le7 (by omega))
      have hc := (s[r.p + i]'(by omega)).toNat_lt
      have hx : idxS s ((r.p : Int) + (i : Int)) = some ((s[r.p + i]'(by omega)).toNat : Int) := by rw [← Int.natCast_add]; exact idxS_nat (by omega)
      have hsuc := valB_succ (s := s) (p := r.p) (i := i) (by omega)
      repeat (first | ((with_reducible first | refine Wp.lettw ?_ ?_ ?_ | refine Wp.lettu64 ?_ ?_ ?_); omega; omega) | (with_reducible refine Wp.lett ?_) | ((with_reducible apply Wp.obind); first | (with_reducible first | exact hx | exact avInt_int _ _ | exact avStr_str _ | exact nilC_ptr _ _ | exact fldP_ptr _ _ _) | ((with_reducible apply RowH.cell'); (with_reducible assumption); rfl)) | ((with_reducible refine Wp.ift ?_ ?_); ((with_reducible apply decide_eq_true); omega)))
      rw [show (valB ((s.drop r.p).take i) : Int) * 256 + ((s[r.p + i]'(by omega)).toNat : Int) = ((valB ((s.drop r.p).take i) * 256 + (s[r.p + i]'(by omega)).toNat : Nat) : Int) by omega, ← hsuc, show (i : Int) + 1 = ((i + 1 : Nat) : Int) by omega]
      exact rnum_loop k hw hp hs hk f (i + 1) (by omega) (by omega)
    · have : i = w := by omega
      subst this
      repeat (first | (with_reducible refine Wp.lett ?_) | ((with_reducible refine Wp.iff ?_ ?_); ((with_reducible apply decide_eq_false); omega)))
      exact hk
theorem refNum_r {w : Nat} (k : RR h b s r) (hb : b < h.next) (hok : r.ok s) (hw : w ≤ 8) (hs : s.length ≤ 1000000) (hn : 8 < n) {W : Int} (hW : W = (w : Int)) : ∃ h', world n (d + 1) 38 [.ptr b 0, .int .i64 W] h = some (.ret (.int .u64 ((rNum s w r).1 : Int)), h') ∧ RR h' b s (rNum s w r).2 ∧ Tch [b] h h' := by
  subst hW
  unfold RS.ok at hok
  apply Wp.ex
  rw [w_ref01_Reader_Number]
  unfold ref01_Reader_Number
  have M := Mem.one k hb
  have ll := lenS_nat s
  have fin : ∀ {r' : RS} {h'}, Mem [b] h h' [(b, 85, rdC s r')] → RR h' b s r' ∧ Tch [b] h h' := fun M => ⟨M.at0.1, M.tch⟩
  unfold rNum
  by_cases he : r.e = 0
  case neg =>
    rw [if_pos he]
    repeat (first | ((with_reducible apply Wp.ld0); (with_reducible assumption); rfl) | (with_reducible refine Wp.lett ?_) | ((with_reducible apply Wp.obind); (with_reducible first | exact avInt_int _ _ | exact nilC_ptr _ _ | exact fldP_ptr _ _ _)) | ((with_reducible refine Wp.ift ?_ ?_); ((with_reducible apply bne_t); omega)))
    exact Wp.ret ⟨rfl, fin M⟩
  rw [if_neg (by simpa using he)]
  by_cases hl : s.length < r.p + w
  · rw [if_pos hl]
    repeat (first | ((with_reducible apply Wp.ld0); (with_reducible assumption); rfl) | ((with_reducible apply Wp.ms0); (with_reducible assumption); exact Nat.le_of_ble_eq_true rfl; rfl; intro _ _) | ((with_reducible refine Wp.lettw ?_ ?_ ?_); omega; omega) | (with_reducible refine Wp.lett ?_) | ((with_reducible apply Wp.obind); (with_reducible first | exact avInt_int _ _ | exact avStr_str _ | exact nilC_ptr _ _ | exact fldP_ptr _ _ _)) | ((with_reducible refine Wp.ift ?_ ?_); ((with_reducible first | apply decide_eq_true | apply bne_t); omega)) | ((with_reducible refine Wp.iff ?_ ?_); ((with_reducible apply bne_f); omega)))
    rename_i M'
    exact Wp.ret ⟨rfl, fin M'⟩
  · rw [if_neg hl]
    repeat (first | ((with_reducible apply Wp.ld0); (with_reducible assumption); rfl) | (with_reducible refine Wp.join1 (fun _ _ => ?_)) | ((with_reducible refine Wp.lettw ?_ ?_ ?_); omega; omega) | (with_reducible refine Wp.lett ?_) | ((with_reducible apply Wp.obind); (with_reducible first | exact avInt_int _ _ | exact avStr_str _ | exact nilC_ptr _ _ | exact fldP_ptr _ _ _)) | ((with_reducible refine Wp.iff ?_ ?_); ((with_reducible first | apply decide_eq_false | apply bne_f); omega)))
    rename_i k40 hk40
    refine rnum_loop k hw (by omega) hs ?_ n 0 (by omega) (by omega)
    repeat (first | ((with_reducible apply Wp.ld0); (with_reducible assumption); rfl) | ((with_reducible apply Wp.ms0); (with_reducible assumption); exact Nat.le_of_ble_eq_true rfl; rfl; intro _ _) | ((with_reducible refine Wp.lettw ?_ ?_ ?_); omega; omega) | ((with_reducible apply Wp.obind); (with_reducible first | exact avInt_int _ _ | exact nilC_ptr _ _ | exact fldP_ptr _ _ _)) | (with_reducible refine Wp.go1 (by assumption) ?_))
    rename_i M'
    have e3 : (rdC s r).set (0 + 1) (.int .i64 ((r.p : Int) + (w : Int))) = rdC s ⟨r.p + w, r.e, r.q⟩ := by
      rw [← Int.natCast_add]
      rfl
    rw [e3] at M'
    exact Wp.ret ⟨rfl, fin M'⟩
theorem refBool_r (k : RR h b s r) (hb : b < h.next) (hok : r.ok s) (hs : s.length ≤ 1000000) (hn : 8 < n) : ∃ h', world n (d + 2) 40 [.ptr b 0] h = some (.ret (.bool (rBool s r).1), h') ∧ RR h' b s (rBool s r).2 ∧ Tch [b] h h' := by
  apply Wp.ex
  rw [w_ref01_Reader_Bool]
  unfold ref01_Reader_Bool rBool
  have M := Mem.one k hb
  obtain ⟨h1, e1, k1, t1⟩ := refNum_r (n := n) (d := d) k hb hok (w := 1) (W := 1) (by omega) hs hn rfl
  have M1 : Mem [b] h h1 [(b, 85, rdC s (rNum s 1 r).2)] := Mem.upd (xs := []) M t1 k1
  have fin : ∀ {r' : RS} {h'}, Mem [b] h h' [(b, 85, rdC s r')] → RR h' b s r' ∧ Tch [b] h h' := fun M => ⟨M.at0.1, M.tch⟩
  by_cases hc : 1 < (rNum s 1 r).1
  · have hp := rNum_e (s := s) (r := r) (w := 1) (by omega)
    rw [if_pos hc]
    repeat (first | ((with_reducible apply Wp.ld0); (with_reducible assumption); rfl) | ((with_reducible apply Wp.ms0); (with_reducible assumption); exact Nat.le_of_ble_eq_true rfl; rfl; intro _ _) | (with_reducible refine Wp.join1 (fun _ _ => ?_)) | (with_reducible refine Wp.lett ?_) | ((with_reducible apply Wp.obind); (with_reducible first | exact avInt_int _ _ | exact nilC_ptr _ _ | exact fldP_ptr _ _ _)) | ((with_reducible refine Wp.ift ?_ ?_); ((with_reducible first | apply decide_eq_true | apply beq_t); omega)) | ((with_reducible apply Wp.callN); (with_reducible assumption)) | (with_reducible refine Wp.go1 (by assumption) ?_))
    rename_i M'
    exact Wp.ret ⟨rfl, fin M'⟩
  · rw [if_neg hc]
    by_cases he : (rNum s 1 r).2.e = 0
    · repeat (first | ((with_reducible apply Wp.ld0); (with_reducible assumption); rfl) | (with_reducible refine Wp.join1 (fun _ _ => ?_)) | (with_reducible refine Wp.lett ?_) | ((with_reducible apply Wp.obind); (with_reducible first | exact avInt_int _ _ | exact nilC_ptr _ _ | exact fldP_ptr _ _ _)) | ((with_reducible refine Wp.ift ?_ ?_); ((with_reducible first | apply decide_eq_true | apply beq_t); omega)) | ((with_reducible refine Wp.iff ?_ ?_); ((with_reducible apply decide_eq_false); omega)) | ((with_reducible apply Wp.callN); (with_reducible assumption)) | (with_reducible refine Wp.go1 (by assumption) ?_))
      refine Wp.ret ⟨?_, fin M1⟩
      by_cases h1 : (rNum s 1 r).1 = 1
      · rw [beq_t (by omega), decide_eq_true h1]
      · rw [beq_f (by omega), decide_eq_false h1]
    · repeat (first | ((with_reducible apply Wp.ld0); (with_reducible assumption); rfl) | (with_reducible refine Wp.join1 (fun _ _ => ?_)) | (with_reducible refine Wp.lett ?_) | ((with_reducible apply Wp.obind); (with_reducible first | exact avInt_int _ _ | exact nilC_ptr _ _ | exact fldP_ptr _ _ _)) | ((with_reducible refine Wp.iff ?_ ?_); first | (with_reducible rfl) | ((with_reducible apply beq_f); omega)) | ((with_reducible apply Wp.callN); (with_reducible assumption)) | (with_reducible refine Wp.go1 (by assumption) ?_))
      refine Wp.ret ⟨?_, fin M1⟩
      by_cases h1 : (rNum s 1 r).1 = 1
      · rw [beq_t (by omega), decide_eq_true h1]
      · rw [beq_f (by omega), decide_eq_false h1]
theorem refText_r (k : RR h b s r) (hb : b < h.next) (hok : r.ok s) (hs : s.length ≤ 1000000) (hn : 8 < n) {most : Nat} (hmo : most < 1000000) {W : Int} (hW : W = (most : Int)) : ∃ h', world n (d + 2) 41 [.ptr b 0, .int .i64 W] h = some (.ret (strA (rText s most r).1), h') ∧ RR h' b s (rText s most r).2 ∧ Tch [b] h h' := by
  subst hW
  apply Wp.ex
  rw [w_ref01_Reader_Text]
  unfold ref01_Reader_Text rText
  have M := Mem.one k hb
  obtain ⟨h1, e1, k1, t1⟩ := refNum_r (n := n) (d := d) k hb hok (w := 4) (W := 4) (by omega) hs hn rfl
  have M1 : Mem [b] h h1 [(b, 85, rdC s (rNum s 4 r).2)] := Mem.upd (xs := []) M t1 k1
  have hok1 := rNum_ok (w := 4) hok
  have hlt : (rNum s 4 r).1 < 4294967296 := rNum_lt (s := s) (w := 4) (r := r)
  unfold RS.ok at hok hok1
  have ll := lenS_nat s
  have fin : ∀ {r' : RS} {h'}, Mem [b] h h' [(b, 85, rdC s r')] → RR h' b s r' ∧ Tch [b] h h' := fun M => ⟨M.at0.1, M.tch⟩
  by_cases he1 : (rNum s 4 r).2.e = 0
  case neg =>
    rw [if_pos he1]
    repeat (first | ((with_reducible apply Wp.ld0); (with_reducible assumption); rfl) | (with_reducible refine Wp.lett ?_) | ((with_reducible apply Wp.obind); (with_reducible first | exact avInt_int _ _ | exact nilC_ptr _ _ | exact fldP_ptr _ _ _)) | ((with_reducible refine Wp.ift ?_ ?_); ((with_reducible apply bne_t); omega)) | ((with_reducible apply Wp.callN); (with_reducible assumption)))
    exact Wp.ret ⟨rfl, fin M1⟩
  rw [if_neg (by simpa using he1)]
  by_cases hc : most < (rNum s 4 r).1
  · rw [if_pos hc]
    repeat (first | ((with_reducible apply Wp.ld0); (with_reducible assumption); rfl) | ((with_reducible apply Wp.ms0); (with_reducible assumption); exact Nat.le_of_ble_eq_true rfl; rfl; intro _ _) | (with_reducible refine Wp.join1 (fun _ _ => ?_)) | ((with_reducible refine Wp.lettu64 ?_ ?_ ?_); omega; omega) | (with_reducible refine Wp.lett ?_) | ((with_reducible apply Wp.obind); (with_reducible first | exact avInt_int _ _ | exact nilC_ptr _ _ | exact fldP_ptr _ _ _)) | ((with_reducible refine Wp.ift ?_ ?_); ((with_reducible first | apply decide_eq_true | apply bne_t); omega)) | ((with_reducible refine Wp.iff ?_ ?_); ((with_reducible first | apply decide_eq_false | apply bne_f); omega)) | ((with_reducible apply Wp.callN); (with_reducible assumption)) | (with_reducible refine Wp.go1 (by assumption) ?_))
    rename_i M'
    exact Wp.ret ⟨rfl, fin M'⟩
  rw [if_neg hc]
  by_cases hl : s.length < (rNum s 4 r).2.p + (rNum s 4 r).1
  · rw [if_pos hl]
    repeat (first | ((with_reducible apply Wp.ld0); (with_reducible assumption); rfl) | ((with_reducible apply Wp.ms0); (with_reducible assumption); exact Nat.le_of_ble_eq_true rfl; rfl; intro _ _) | (with_reducible refine Wp.join1 (fun _ _ => ?_)) | ((with_reducible first | refine Wp.lettw ?_ ?_ ?_ | refine Wp.lettu64 ?_ ?_ ?_); omega; omega) | (with_reducible refine Wp.lett ?_) | ((with_reducible apply Wp.obind); (with_reducible first | exact avInt_int _ _ | exact avStr_str _ | exact nilC_ptr _ _ | exact fldP_ptr _ _ _)) | ((with_reducible refine Wp.ift ?_ ?_); ((with_reducible first | apply decide_eq_true | apply bne_t); omega)) | ((with_reducible refine Wp.iff ?_ ?_); ((with_reducible first | apply decide_eq_false | apply bne_f); omega)) | ((with_reducible apply Wp.callN); (with_reducible assumption)) | (with_reducible refine Wp.go1 (by assumption) ?_))
    rename_i M'
    exact Wp.ret ⟨rfl, fin M'⟩
  · rw [if_neg hl]
    have hsl := sliceS_nat (l := s) (a := (rNum s 4 r).2.p) (b := (rNum s 4 r).2.p + (rNum s 4 r).1) (by omega) (by omega)
    rw [Nat.add_sub_cancel_left, Int.natCast_add] at hsl
    repeat (first | ((with_reducible apply Wp.ld0); (with_reducible assumption); rfl) | ((with_reducible apply Wp.ms0); (with_reducible assumption); exact Nat.le_of_ble_eq_true rfl; rfl; intro _ _) | (with_reducible refine Wp.join1 (fun _ _ => ?_)) | ((with_reducible first | refine Wp.lettw ?_ ?_ ?_ | refine Wp.lettu64 ?_ ?_ ?_); omega; omega) | (with_reducible refine Wp.lett ?_) | ((with_reducible apply Wp.obind); (with_reducible first | exact avInt_int _ _ | exact avStr_str _ | exact nilC_ptr _ _ | exact fldP_ptr _ _ _ | assumption)) | ((with_reducible refine Wp.iff ?_ ?_); ((with_reducible first | apply decide_eq_false | apply bne_f); omega)) | ((with_reducible apply Wp.callN); (with_reducible assumption)) | (with_reducible refine Wp.go1 (by assumption) ?_))
    rename_i M'
    have e3 : (rdC s (rNum s 4 r).2).set (0 + 1) (.int .i64 (((rNum s 4 r).2.p : Int) + ((rNum s 4 r).1 : Int))) = rdC s ⟨(rNum s 4 r).2.p + (rNum s 4 r).1, (rNum s 4 r).2.e, (rNum s 4 r).2.q⟩ := by
      rw [← Int.natCast_add]
      rfl
    rw [e3] at M'
    exact Wp.ret ⟨rfl, fin M'⟩
theorem refEnd_r (k : RR h b s r) (hb : b < h.next) : world n (d + 1) 42 [.ptr b 0] h = some (.ret (.tup [.int .i64 (rEnd s r).1, .int .i64 (rEnd s r).2]), h) := by
  apply Wp.eq
  rw [w_ref01_Reader_End]
  unfold ref01_Reader_End rEnd
  have M := Mem.one k hb
  have ll := lenS_nat s
  by_cases he : r.e = 0
  · by_cases hp : r.p < s.length
    · rw [if_pos ⟨he, hp⟩]
      repeat (first | ((with_reducible apply Wp.ld0); (with_reducible assumption); rfl) | (with_reducible refine Wp.join1 (fun _ _ => ?_)) | (with_reducible refine Wp.lett ?_) | ((with_reducible apply Wp.obind); (with_reducible first | exact avInt_int _ _ | exact avStr_str _ | exact nilC_ptr _ _ | exact fldP_ptr _ _ _)) | ((with_reducible refine Wp.ift ?_ ?_); ((with_reducible first | apply decide_eq_true | apply beq_t); omega)) | (with_reducible refine Wp.go1 (by assumption) ?_))
      exact Wp.ret ⟨rfl, rfl⟩
    · rw [if_neg (fun hh => hp hh.2)]
      repeat (first | ((with_reducible apply Wp.ld0); (with_reducible assumption); rfl) | (with_reducible refine Wp.join1 (fun _ _ => ?_)) | (with_reducible refine Wp.lett ?_) | ((with_reducible apply Wp.obind); (with_reducible first | exact avInt_int _ _ | exact avStr_str _ | exact nilC_ptr _ _ | exact fldP_ptr _ _ _)) | ((with_reducible refine Wp.ift ?_ ?_); ((with_reducible first | apply decide_eq_true | apply beq_t); omega)) | ((with_reducible refine Wp.iff ?_ ?_); ((with_reducible apply decide_eq_false); omega)) | (with_reducible refine Wp.go1 (by assumption) ?_))
      exact Wp.ret ⟨rfl, rfl⟩
  · rw [if_neg (fun hh => he hh.1)]
    repeat (first | ((with_reducible apply Wp.ld0); (with_reducible assumption); rfl) | (with_reducible refine Wp.join1 (fun _ _ => ?_)) | (with_reducible refine Wp.lett ?_) | ((with_reducible apply Wp.obind); (with_reducible first | exact avInt_int _ _ | exact nilC_ptr _ _ | exact fldP_ptr _ _ _)) | ((with_reducible refine Wp.iff ?_ ?_); first | (with_reducible rfl) | ((with_reducible apply beq_f); omega)) | (with_reducible refine Wp.go1 (by assumption) ?_))
    exact Wp.ret ⟨rfl, rfl⟩
theorem whole17_w (v : Nat) : world n (d + 1) 39 [.int .u64 (v : Int)] h = some (.ret (.int .i64 (whl v)), h) := by
  rw [w_ref17_whole]
  refine (congrArg (gcR h) ?_).trans gcR_self
  apply Wp.eq
  unfold ref17_whole whl
  by_cases hv : v > 1125899906842624
  · rw [if_pos hv]
    repeat (first | (with_reducible refine Wp.lett ?_) | ((with_reducible refine Wp.ift ?_ ?_); ((with_reducible apply decide_eq_true); omega)))
    exact Wp.ret ⟨rfl, rfl⟩
  · rw [if_neg hv]
    repeat (first | ((with_reducible refine Wp.lettw ?_ ?_ ?_); omega; omega) | (with_reducible refine Wp.lett ?_) | ((with_reducible refine Wp.iff ?_ ?_); ((with_reducible apply decide_eq_false); omega)))
    exact Wp.ret ⟨rfl, rfl⟩
end
end Go.Proofs.Ytmibgiblejpgdaa
