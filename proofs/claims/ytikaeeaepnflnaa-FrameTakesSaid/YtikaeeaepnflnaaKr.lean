/- Readers of bytes: the program's, and the document's. -/
import Derived.Test.YtikaeeaepnflnaaKp
namespace Go.Proofs.Ytikaeeaepnflnaa
open Go.RowKit Abs

noncomputable def rdC (s : Bytes) (r : RS) : List AV := [strA s, .int .i64 (r.p : Int), .int .i64 r.e, .int .i64 r.q]
abbrev PR (h : AHeap) (b : Nat) (s : Bytes) (r : RS) : Prop := RowH h b 58 (rdC s r)
theorem neq72 (h : AHeap) (b : Nat) : opBin Try.prog h .neq 48 true (some (.ptr b 0)) (some .nilp) = some (.val (.bool true), h) := by kernel_rfl
theorem eql72 (h : AHeap) (b : Nat) : opBin Try.prog h .eql 48 true (some (.ptr b 0)) (some .nilp) = some (.val (.bool false), h) := by kernel_rfl
theorem shl8 {v : Int} (h0 : 0 ≤ v) (h1 : v < 72057594037927936) : shlI .u64 v 8 = some (v * 256) := by
  have : shlI .u64 v 8 = some (IntKind.u64.wrap (v * 256)) := rfl
  rw [this, wrap_u64_mod, Int.emod_eq_of_lt (by omega) (by omega)]
theorem or8 {v c : Nat} (h1 : v < 72057594037927936) (h2 : c < 256) : orI .u64 ((v : Int) * 256) (c : Int) = ((v * 256 + c : Nat) : Int) := by
  show IntKind.u64.wrap (((BitVec.ofInt 64 ((v : Int) * 256)) ||| (BitVec.ofInt 64 (c : Int))).toNat : Int) = _
  have e1 : (BitVec.ofInt 64 ((v : Int) * 256)) = BitVec.ofNat 64 (v * 256) := by
    rw [show ((v : Int) * 256) = ((v * 256 : Nat) : Int) by omega]
    exact BitVec.ofInt_natCast ..
  have e2 : (BitVec.ofInt 64 (c : Int)) = BitVec.ofNat 64 c := BitVec.ofInt_natCast ..
  rw [e1, e2, BitVec.toNat_or, BitVec.toNat_ofNat, BitVec.toNat_ofNat, Nat.mod_eq_of_lt (by omega), Nat.mod_eq_of_lt (by omega)]
  have e3 : v * 256 ||| c = v * 256 + c := by
    have := Nat.shiftLeft_add_eq_or_of_lt (i := 8) (b := c) (by omega) v
    rw [Nat.shiftLeft_eq] at this
    exact this.symm
  rw [e3, wrap_u64_mod, Int.emod_eq_of_lt (by omega) (by omega)]
section
variable {n d b : Nat} {h : AHeap} {s : Bytes} {r : RS} {Q : ARes → AHeap → Prop}
theorem whole_w (k : PR h b s r) : world n (d + 1) 31 [.ptr b 0] h = some (.ret (.bool (decide (r.e = 0))), h) := by
  apply Wp.eq
  rw [w_wire_Reader_whole]
  unfold wire_Reader_whole
  repeat (first | (with_reducible first | refine Wp.join0 (fun _ _ => ?_) | refine Wp.join1 (fun _ _ => ?_) | refine Wp.join2 (fun _ _ => ?_)) | ((with_reducible first | refine Wp.lettw ?_ ?_ ?_ | refine Wp.lettu64 ?_ ?_ ?_ | refine Wp.lettu8 ?_ ?_ ?_ | refine Wp.lettu32 ?_ ?_ ?_); omega; omega) | (with_reducible refine Wp.lett ?_) | ((with_reducible apply Wp.obind); first | (with_reducible first | exact avInt_int _ _ | exact avBool_bool _ | exact avStr_str _ | exact nilC_ptr _ _ | exact fldP_ptr _ _ _ | exact avAgg_agg _ | exact extT_0 _ _ | exact extT_1 _ _ _ | exact extT_2 _ _ _ _ | assumption) | ((with_reducible first | apply RowH.cell' | apply RowH.ldAll); (with_reducible assumption); rfl)) | ((with_reducible refine Wp.ift ?_ ?_); first | (with_reducible first | rfl | assumption | exact Bool.not_false) | ((with_reducible first | apply decide_eq_true | apply not_df | apply bne_t | apply beq_t); omega)) | ((with_reducible refine Wp.iff ?_ ?_); first | (with_reducible first | rfl | assumption | exact Bool.not_true) | ((with_reducible first | apply decide_eq_false | apply not_dt | apply bne_f | apply beq_f); omega)) | ((with_reducible first | apply Wp.callN | apply Wp.callK); (with_reducible assumption)) | ((with_reducible apply Wp.outK); (with_reducible first | exact neq72 _ _ | assumption)) | (with_reducible first | refine Wp.go0 (by assumption) ?_ | refine Wp.go1 (by assumption) ?_ | refine Wp.go2 (by assumption) ?_) | rw [newP_eq])
  exact Wp.ret ⟨by rw [← Bool.beq_eq_decide_eq], rfl⟩
theorem fail_w (k : PR h b s r) (e q : Int) : ∃ h', world n (d + 1) 32 [.ptr b 0, .int .i64 e, .int .i64 q] h = some (.ret (.tup []), h') ∧ PR h' b s ⟨r.p, e, q⟩ ∧ Tch [b] h h' := by
  apply Wp.ex
  rw [w_wire_Reader_fail]
  unfold wire_Reader_fail
  repeat (first | (with_reducible first | refine Wp.join0 (fun _ _ => ?_) | refine Wp.join1 (fun _ _ => ?_) | refine Wp.join2 (fun _ _ => ?_)) | ((with_reducible first | refine Wp.lettw ?_ ?_ ?_ | refine Wp.lettu64 ?_ ?_ ?_ | refine Wp.lettu8 ?_ ?_ ?_ | refine Wp.lettu32 ?_ ?_ ?_); omega; omega) | (with_reducible refine Wp.lett ?_) | ((with_reducible apply Wp.obind); first | (with_reducible first | exact avInt_int _ _ | exact avBool_bool _ | exact avStr_str _ | exact nilC_ptr _ _ | exact fldP_ptr _ _ _ | exact avAgg_agg _ | exact extT_0 _ _ | exact extT_1 _ _ _ | exact extT_2 _ _ _ _ | assumption) | ((with_reducible first | apply RowH.cell' | apply RowH.ldAll); (with_reducible assumption); rfl)) | ((with_reducible refine Wp.ift ?_ ?_); first | (with_reducible first | rfl | assumption | exact Bool.not_false) | ((with_reducible first | apply decide_eq_true | apply not_df | apply bne_t | apply beq_t); omega)) | ((with_reducible refine Wp.iff ?_ ?_); first | (with_reducible first | rfl | assumption | exact Bool.not_true) | ((with_reducible first | apply decide_eq_false | apply not_dt | apply bne_f | apply beq_f); omega)) | ((with_reducible first | apply Wp.callN | apply Wp.callK); (with_reducible assumption)) | ((with_reducible apply Wp.outK); (with_reducible assumption)) | (with_reducible first | refine Wp.go0 (by assumption) ?_ | refine Wp.go1 (by assumption) ?_ | refine Wp.go2 (by assumption) ?_) | rw [newP_eq])
  refine Wp.stN k (vs := [.int .i64 e, .int .i64 q]) rfl (show 0 + 2 + 2 ≤ 4 by decide) rfl (fun h' k' t' _ => ?_)
  exact Wp.ret ⟨rfl, k', t'⟩
theorem num_loop {w : Nat} (hw : w ≤ 8) (hp : r.p + w ≤ s.length) (hs : s.length ≤ 1000000000) {k33 : Int → AHeap → R} (hk : k33 = fun t5 h_34 => some (.ret (.int .u64 t5), h_34)) {h0 : AHeap} :
    ∀ (f i : Nat) (h : AHeap), w < f + i → i ≤ w → PR h b s ⟨r.p + i, r.e, r.q⟩ → Tch [b] h0 h →
      Wp (wire_Reader_number_L0 (.ptr b 0) (w : Int) k33 f (valB ((s.drop r.p).take i) : Int) (i : Int) h) fun x h' => x = .ret (.int .u64 (valB ((s.drop r.p).take w) : Int)) ∧ PR h' b s ⟨r.p + w, r.e, r.q⟩ ∧ Tch [b] h0 h'
  | 0, i, h, h1, h2, _, _ => by omega
  | f + 1, i, h, h1, h2, k, t => by
    rw [wire_Reader_number_L0_s]
    unfold wire_Reader_number_L0b
    by_cases hi : i < w
    · have hv : valB ((s.drop r.p).take i) < 72057594037927936 := Nat.lt_of_lt_of_le valB_le8 (pow_le7 (by omega))
      have hc := (s[r.p + i]'(by omega)).toNat_lt
      have hx : idxS s ((r.p + i : Nat) : Int) = some ((s[r.p + i]'(by omega)).toNat : Int) := idxS_nat (by omega)
      have hsuc := valB_succ (s := s) (p := r.p) (i := i) (by omega)
      have k0 : RowH h b 58 [strA s, .int .i64 ((r.p + i : Nat) : Int), .int .i64 r.e, .int .i64 r.q] := k
      clear k
      repeat (first | (with_reducible first | refine Wp.join0 (fun _ _ => ?_) | refine Wp.join1 (fun _ _ => ?_) | refine Wp.join2 (fun _ _ => ?_)) | ((with_reducible first | refine Wp.lettw ?_ ?_ ?_ | refine Wp.lettu64 ?_ ?_ ?_ | refine Wp.lettu8 ?_ ?_ ?_ | refine Wp.lettu32 ?_ ?_ ?_); omega; omega) | (with_reducible refine Wp.lett ?_) | ((with_reducible apply Wp.obind); first | (with_reducible first | exact shl8 (by omega) (by omega) | exact hx | exact avInt_int _ _ | exact avBool_bool _ | exact avStr_str _ | exact nilC_ptr _ _ | exact fldP_ptr _ _ _ | exact avAgg_agg _ | exact extT_0 _ _ | exact extT_1 _ _ _ | exact extT_2 _ _ _ _ | assumption) | ((with_reducible first | apply RowH.cell' | apply RowH.ldAll); (with_reducible assumption); rfl)) | ((with_reducible refine Wp.ift ?_ ?_); first | (with_reducible first | rfl | assumption | exact Bool.not_false) | ((with_reducible first | apply decide_eq_true | apply not_df | apply bne_t | apply beq_t); omega)) | ((with_reducible refine Wp.iff ?_ ?_); first | (with_reducible first | rfl | assumption | exact Bool.not_true) | ((with_reducible first | apply decide_eq_false | apply not_dt | apply bne_f | apply beq_f); omega)) | ((with_reducible first | apply Wp.callN | apply Wp.callK); (with_reducible assumption)) | ((with_reducible apply Wp.outK); (with_reducible assumption)) | (with_reducible first | refine Wp.go0 (by assumption) ?_ | refine Wp.go1 (by assumption) ?_ | refine Wp.go2 (by assumption) ?_) | rw [newP_eq])
      refine Wp.st1 k0 (show 1 < 4 by decide) rfl (fun h' k' t' _ => ?_)
      repeat (first | (with_reducible first | refine Wp.join0 (fun _ _ => ?_) | refine Wp.join1 (fun _ _ => ?_) | refine Wp.join2 (fun _ _ => ?_)) | ((with_reducible first | refine Wp.lettw ?_ ?_ ?_ | refine Wp.lettu64 ?_ ?_ ?_ | refine Wp.lettu8 ?_ ?_ ?_ | refine Wp.lettu32 ?_ ?_ ?_); omega; omega) | (with_reducible refine Wp.lett ?_) | ((with_reducible apply Wp.obind); first | (with_reducible first | exact avInt_int _ _ | exact avBool_bool _ | exact avStr_str _ | exact nilC_ptr _ _ | exact fldP_ptr _ _ _ | exact avAgg_agg _ | exact extT_0 _ _ | exact extT_1 _ _ _ | exact extT_2 _ _ _ _ | assumption) | ((with_reducible first | apply RowH.cell' | apply RowH.ldAll); (with_reducible assumption); rfl)) | ((with_reducible refine Wp.ift ?_ ?_); first | (with_reducible first | rfl | assumption | exact Bool.not_false) | ((with_reducible first | apply decide_eq_true | apply not_df | apply bne_t | apply beq_t); omega)) | ((with_reducible refine Wp.iff ?_ ?_); first | (with_reducible first | rfl | assumption | exact Bool.not_true) | ((with_reducible first | apply decide_eq_false | apply not_dt | apply bne_f | apply beq_f); omega)) | ((with_reducible first | apply Wp.callN | apply Wp.callK); (with_reducible assumption)) | ((with_reducible apply Wp.outK); (with_reducible assumption)) | (with_reducible first | refine Wp.go0 (by assumption) ?_ | refine Wp.go1 (by assumption) ?_ | refine Wp.go2 (by assumption) ?_) | rw [newP_eq])
      rw [or8 hv hc, ← hsuc, show (i : Int) + 1 = ((i + 1 : Nat) : Int) by omega]
      refine num_loop hw hp hs hk f (i + 1) h' (by omega) (by omega) ?_ (t.trans t')
      have e : ([strA s, .int .i64 ((r.p + i : Nat) : Int), .int .i64 r.e, .int .i64 r.q] : List AV).set 1 (.int .i64 (((r.p + i : Nat) : Int) + 1)) = rdC s ⟨r.p + (i + 1), r.e, r.q⟩ := by
        rw [show ((r.p + i : Nat) : Int) + 1 = ((r.p + (i + 1) : Nat) : Int) by omega]
        rfl
      have k2 : RowH h' b 58 _ := k'
      rw [show 0 + 1 = 1 from rfl, e] at k2
      exact k2
    · have : i = w := by omega
      subst this
      repeat (first | (with_reducible first | refine Wp.join0 (fun _ _ => ?_) | refine Wp.join1 (fun _ _ => ?_) | refine Wp.join2 (fun _ _ => ?_)) | ((with_reducible first | refine Wp.lettw ?_ ?_ ?_ | refine Wp.lettu64 ?_ ?_ ?_ | refine Wp.lettu8 ?_ ?_ ?_ | refine Wp.lettu32 ?_ ?_ ?_); omega; omega) | (with_reducible refine Wp.lett ?_) | ((with_reducible apply Wp.obind); first | (with_reducible first | exact avInt_int _ _ | exact avBool_bool _ | exact avStr_str _ | exact nilC_ptr _ _ | exact fldP_ptr _ _ _ | exact avAgg_agg _ | exact extT_0 _ _ | exact extT_1 _ _ _ | exact extT_2 _ _ _ _ | assumption) | ((with_reducible first | apply RowH.cell' | apply RowH.ldAll); (with_reducible assumption); rfl)) | ((with_reducible refine Wp.ift ?_ ?_); first | (with_reducible first | rfl | assumption | exact Bool.not_false) | ((with_reducible first | apply decide_eq_true | apply not_df | apply bne_t | apply beq_t); omega)) | ((with_reducible refine Wp.iff ?_ ?_); first | (with_reducible first | rfl | assumption | exact Bool.not_true) | ((with_reducible first | apply decide_eq_false | apply not_dt | apply bne_f | apply beq_f); omega)) | ((with_reducible first | apply Wp.callN | apply Wp.callK); (with_reducible assumption)) | ((with_reducible apply Wp.outK); (with_reducible assumption)) | (with_reducible first | refine Wp.go0 (by assumption) ?_ | refine Wp.go1 (by assumption) ?_ | refine Wp.go2 (by assumption) ?_) | rw [newP_eq])
      exact Wp.ret ⟨rfl, k, t⟩
theorem number_r {w : Nat} (k : PR h b s r) (hok : r.ok s) (hw : w ≤ 8) (hs : s.length ≤ 1000000000) (hn : 8 < n) {W : Int} (hW : W = (w : Int)) : ∃ h', world n (d + 2) 28 [.ptr b 0, .int .i64 W] h = some (.ret (.int .u64 ((rNum s w r).1 : Int)), h') ∧ PR h' b s (rNum s w r).2 ∧ Tch [b] h h' := by
  subst hW
  unfold RS.ok at hok
  apply Wp.ex
  rw [w_wire_Reader_number]
  unfold wire_Reader_number
  have hwh := whole_w (n := n) (d := d) k
  have ll := lenS_nat s
  unfold rNum
  by_cases he : r.e = 0
  case neg =>
    rw [decide_eq_false he] at hwh
    rw [if_pos he]
    repeat (first | (with_reducible first | refine Wp.join0 (fun _ _ => ?_) | refine Wp.join1 (fun _ _ => ?_) | refine Wp.join2 (fun _ _ => ?_)) | ((with_reducible first | refine Wp.lettw ?_ ?_ ?_ | refine Wp.lettu64 ?_ ?_ ?_ | refine Wp.lettu8 ?_ ?_ ?_ | refine Wp.lettu32 ?_ ?_ ?_); omega; omega) | (with_reducible refine Wp.lett ?_) | ((with_reducible apply Wp.obind); first | (with_reducible first | exact avInt_int _ _ | exact avBool_bool _ | exact avStr_str _ | exact nilC_ptr _ _ | exact fldP_ptr _ _ _ | exact avAgg_agg _ | exact extT_0 _ _ | exact extT_1 _ _ _ | exact extT_2 _ _ _ _ | assumption) | ((with_reducible first | apply RowH.cell' | apply RowH.ldAll); (with_reducible assumption); rfl)) | ((with_reducible refine Wp.ift ?_ ?_); first | (with_reducible first | rfl | assumption | exact Bool.not_false) | ((with_reducible first | apply decide_eq_true | apply not_df | apply bne_t | apply beq_t); omega)) | ((with_reducible refine Wp.iff ?_ ?_); first | (with_reducible first | rfl | assumption | exact Bool.not_true) | ((with_reducible first | apply decide_eq_false | apply not_dt | apply bne_f | apply beq_f); omega)) | ((with_reducible first | apply Wp.callN | apply Wp.callK); (with_reducible assumption)) | ((with_reducible apply Wp.outK); (with_reducible assumption)) | (with_reducible first | refine Wp.go0 (by assumption) ?_ | refine Wp.go1 (by assumption) ?_ | refine Wp.go2 (by assumption) ?_) | rw [newP_eq])
    exact Wp.ret ⟨rfl, k, Tch.refl _ _⟩
  rw [decide_eq_true he] at hwh
  rw [if_neg (by simpa using he)]
  by_cases hl : s.length < r.p + w
  · obtain ⟨h1, e1, k1, t1⟩ := fail_w (n := n) (d := d) k 7 (r.p : Int)
    rw [if_pos hl]
    repeat (first | (with_reducible first | refine Wp.join0 (fun _ _ => ?_) | refine Wp.join1 (fun _ _ => ?_) | refine Wp.join2 (fun _ _ => ?_)) | ((with_reducible first | refine Wp.lettw ?_ ?_ ?_ | refine Wp.lettu64 ?_ ?_ ?_ | refine Wp.lettu8 ?_ ?_ ?_ | refine Wp.lettu32 ?_ ?_ ?_); omega; omega) | (with_reducible refine Wp.lett ?_) | ((with_reducible apply Wp.obind); first | (with_reducible first | exact avInt_int _ _ | exact avBool_bool _ | exact avStr_str _ | exact nilC_ptr _ _ | exact fldP_ptr _ _ _ | exact avAgg_agg _ | exact extT_0 _ _ | exact extT_1 _ _ _ | exact extT_2 _ _ _ _ | assumption) | ((with_reducible first | apply RowH.cell' | apply RowH.ldAll); (with_reducible assumption); rfl)) | ((with_reducible refine Wp.ift ?_ ?_); first | (with_reducible first | rfl | assumption | exact Bool.not_false) | ((with_reducible first | apply decide_eq_true | apply not_df | apply bne_t | apply beq_t); omega)) | ((with_reducible refine Wp.iff ?_ ?_); first | (with_reducible first | rfl | assumption | exact Bool.not_true) | ((with_reducible first | apply decide_eq_false | apply not_dt | apply bne_f | apply beq_f); omega)) | ((with_reducible first | apply Wp.callN | apply Wp.callK); (with_reducible assumption)) | ((with_reducible apply Wp.outK); (with_reducible assumption)) | (with_reducible first | refine Wp.go0 (by assumption) ?_ | refine Wp.go1 (by assumption) ?_ | refine Wp.go2 (by assumption) ?_) | rw [newP_eq])
    exact Wp.ret ⟨rfl, k1, t1⟩
  · rw [if_neg hl]
    repeat (first | (with_reducible first | refine Wp.join0 (fun _ _ => ?_) | refine Wp.join1 (fun _ _ => ?_) | refine Wp.join2 (fun _ _ => ?_)) | ((with_reducible first | refine Wp.lettw ?_ ?_ ?_ | refine Wp.lettu64 ?_ ?_ ?_ | refine Wp.lettu8 ?_ ?_ ?_ | refine Wp.lettu32 ?_ ?_ ?_); omega; omega) | (with_reducible refine Wp.lett ?_) | ((with_reducible apply Wp.obind); first | (with_reducible first | exact avInt_int _ _ | exact avBool_bool _ | exact avStr_str _ | exact nilC_ptr _ _ | exact fldP_ptr _ _ _ | exact avAgg_agg _ | exact extT_0 _ _ | exact extT_1 _ _ _ | exact extT_2 _ _ _ _ | assumption) | ((with_reducible first | apply RowH.cell' | apply RowH.ldAll); (with_reducible assumption); rfl)) | ((with_reducible refine Wp.ift ?_ ?_); first | (with_reducible first | rfl | assumption | exact Bool.not_false) | ((with_reducible first | apply decide_eq_true | apply not_df | apply bne_t | apply beq_t); omega)) | ((with_reducible refine Wp.iff ?_ ?_); first | (with_reducible first | rfl | assumption | exact Bool.not_true) | ((with_reducible first | apply decide_eq_false | apply not_dt | apply bne_f | apply beq_f); omega)) | ((with_reducible first | apply Wp.callN | apply Wp.callK); (with_reducible assumption)) | ((with_reducible apply Wp.outK); (with_reducible assumption)) | (with_reducible first | refine Wp.go0 (by assumption) ?_ | refine Wp.go1 (by assumption) ?_ | refine Wp.go2 (by assumption) ?_) | rw [newP_eq])
    rename_i k33 hk33
    exact num_loop hw (by omega) hs hk33 n 0 h (by omega) (by omega) k (Tch.refl _ _)
theorem u32_r (k : PR h b s r) (hok : r.ok s) (hs : s.length ≤ 1000000000) (hn : 8 < n) : ∃ h', world n (d + 3) 21 [.ptr b 0] h = some (.ret (.int .u32 ((rNum s 4 r).1 : Int)), h') ∧ PR h' b s (rNum s 4 r).2 ∧ Tch [b] h h' := by
  obtain ⟨h1, e1, k1, t1⟩ := number_r (n := n) (d := d) k hok (w := 4) (W := 4) (by omega) hs hn rfl
  have hlt : (rNum s 4 r).1 < 4294967296 := rNum_lt (s := s) (w := 4) (r := r)
  apply Wp.ex
  rw [w_wire_Reader_U32]
  unfold wire_Reader_U32
  repeat (first | (with_reducible first | refine Wp.join0 (fun _ _ => ?_) | refine Wp.join1 (fun _ _ => ?_) | refine Wp.join2 (fun _ _ => ?_)) | ((with_reducible first | refine Wp.lettw ?_ ?_ ?_ | refine Wp.lettu64 ?_ ?_ ?_ | refine Wp.lettu8 ?_ ?_ ?_ | refine Wp.lettu32 ?_ ?_ ?_); omega; omega) | (with_reducible refine Wp.lett ?_) | ((with_reducible apply Wp.obind); first | (with_reducible first | exact avInt_int _ _ | exact avBool_bool _ | exact avStr_str _ | exact nilC_ptr _ _ | exact fldP_ptr _ _ _ | exact avAgg_agg _ | exact extT_0 _ _ | exact extT_1 _ _ _ | exact extT_2 _ _ _ _ | assumption) | ((with_reducible first | apply RowH.cell' | apply RowH.ldAll); (with_reducible assumption); rfl)) | ((with_reducible refine Wp.ift ?_ ?_); first | (with_reducible first | rfl | assumption | exact Bool.not_false) | ((with_reducible first | apply decide_eq_true | apply not_df | apply bne_t | apply beq_t); omega)) | ((with_reducible refine Wp.iff ?_ ?_); first | (with_reducible first | rfl | assumption | exact Bool.not_true) | ((with_reducible first | apply decide_eq_false | apply not_dt | apply bne_f | apply beq_f); omega)) | ((with_reducible first | apply Wp.callN | apply Wp.callK); (with_reducible assumption)) | ((with_reducible apply Wp.outK); (with_reducible assumption)) | (with_reducible first | refine Wp.go0 (by assumption) ?_ | refine Wp.go1 (by assumption) ?_ | refine Wp.go2 (by assumption) ?_) | rw [newP_eq])
  exact Wp.ret ⟨rfl, k1, t1⟩
theorem rNum_e {w : Nat} (h : (rNum s w r).1 ≠ 0) : (rNum s w r).2.e = 0 ∧ (rNum s w r).2.p = r.p + w := by
  unfold rNum at *
  split
  · rename_i h1
    rw [if_pos h1] at h
    exact absurd rfl h
  · rename_i h1
    rw [if_neg h1] at h
    split
    · rename_i h2
      rw [if_pos h2] at h
      exact absurd rfl h
    · exact ⟨by simpa using h1, rfl⟩
end
end Go.Proofs.Ytikaeeaepnflnaa
