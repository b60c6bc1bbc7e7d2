/- Readers of bytes: the program's, and the document's. -/
import Derived.Test.YtmibgiblejpgdaaRp
import Derived.Test.YtmibgiblejpgdaaWw
namespace Go.Proofs.Ytmibgiblejpgdaa
open Go.RowKit Abs

noncomputable def rdC (s : Bytes) (r : RS) : List AV := [strA s, .int .i64 (r.p : Int), .int .i64 r.e, .int .i64 r.q]
abbrev PR (h : AHeap) (b : Nat) (s : Bytes) (r : RS) : Prop := RowH h b 95 (rdC s r)
abbrev RR (h : AHeap) (b : Nat) (s : Bytes) (r : RS) : Prop := RowH h b 85 (rdC s r)
theorem neq72 (h : AHeap) (b : Nat) : opBin Try.prog h .neq 72 true (some (.ptr b 0)) (some .nilp) = some (.val (.bool true), h) := by kernel_rfl
theorem eql72 (h : AHeap) (b : Nat) : opBin Try.prog h .eql 72 true (some (.ptr b 0)) (some .nilp) = some (.val (.bool false), h) := by kernel_rfl
theorem shl8 {v : Int} (h0 : 0 ≤ v) (h1 : v < 72057594037927936) : shlI .u64 v 8 = some (v * 256) := by
  have : shlI .u64 v 8 = some (IntKind.u64.wrap (v * 256)) := rfl
  rw [this, wrap_u64_mod, Int.emod_eq_of_lt (by omega) (by omega)]
theorem or8 {v c : Nat} (h1 : v < 72057594037927936) (h2 : c < 256) : orI .u64 ((v : Int) * 256) (c : Int) = ((v * 256 + c : Nat) : Int) := by
  show IntKind.u64.wrap (((BitVec.ofInt 64 ((v : Int) * 256)) ||| (BitVec.ofInt 64 (c : Int))).toNat : Int) = _
  have e1 : (BitVec.ofInt 64 ((v : Int) * 256)) = BitVec.ofNat 64 (v * 256) := by
    rw [show ((v : Int) * 256) = ((v * 256 : Nat) : Int) by omega]
    exact BitVec.ofInt_natCast ..
  have e2 : (BitVec.ofInt 64 (c : Int)) = BitVec.ofNat 64 c := BitVec.ofInt_natCast ..
  rw [e1, e2, BitVec.toNat_or, BitVec.toNat_ofNat, BitVec.toNat_ofNat, Nat.mod_eq_of_lt (by omega), Nat.mod_eq_of_lt (by omega)]
  have e3 : v * 256 ||| c = v * 256 + c := by
    have := Nat.shiftLeft_add_eq_or_of_lt (i := 8) (b := c) (by omega) v
    rw [Nat.shiftLeft_eq] at this
    exact this.symm
  rw [e3, wrap_u64_mod, Int.emod_eq_of_lt (by omega) (by omega)]
section
variable {n d b : Nat} {h : AHeap} {s : Bytes} {r : RS} {Q : ARes → AHeap → Prop}
theorem whole_w (k : PR h b s r) : world n (d + 1) 51 [.ptr b 0] h = some (.ret (.bool (decide (r.e = 0))), h) := by
  apply Wp.eq
  rw [w_wire_Reader_whole]
  unfold wire_Reader_whole
  repeat (first | (with_reducible refine Wp.join1 (fun _ _ => ?_)) | (with_reducible refine Wp.lett ?_) | ((with_reducible apply Wp.obind); first | (with_reducible first | exact avInt_int _ _ | exact avBool_bool _ | exact nilC_ptr _ _ | exact fldP_ptr _ _ _) | ((with_reducible apply RowH.cell'); (with_reducible assumption); rfl)) | ((with_reducible refine Wp.ift ?_ ?_); (with_reducible rfl)) | ((with_reducible apply Wp.outK); (with_reducible exact neq72 _ _)) | (with_reducible refine Wp.go1 (by assumption) ?_))
  exact Wp.ret ⟨by rw [← Bool.beq_eq_decide_eq], rfl⟩
theorem fail_w (k : PR h b s r) (e q : Int) : ∃ h', world n (d + 1) 56 [.ptr b 0, .int .i64 e, .int .i64 q] h = some (.ret (.tup []), h') ∧ PR h' b s ⟨r.p, e, q⟩ ∧ Tch [b] h h' := by
  apply Wp.ex
  rw [w_wire_Reader_fail]
  unfold wire_Reader_fail
  repeat (((with_reducible apply Wp.obind); (with_reducible first | exact nilC_ptr _ _ | exact fldP_ptr _ _ _)))
  refine Wp.stN k (vs := [.int .i64 e, .int .i64 q]) rfl (show 0 + 2 + 2 ≤ 4 by decide) rfl (fun h' k' t' _ => ?_)
  exact Wp.ret ⟨rfl, k', t'⟩
theorem num_loop {w : Nat} (hw : w ≤ 8) (hp : r.p + w ≤ s.length) (hs : s.length ≤ 1000000) {k33 : Int → AHeap → R} (hk : k33 = fun t5 h_34 => some (.ret (.int .u64 t5), h_34)) {h0 : AHeap} :
    ∀ (f i : Nat) (h : AHeap), w < f + i → i ≤ w → PR h b s ⟨r.p + i, r.e, r.q⟩ → Tch [b] h0 h →
      Wp (wire_Reader_number_L0 (.ptr b 0) (w : Int) k33 f (valB ((s.drop r.p).take i) : Int) (i : Int) h) fun x h' => x = .ret (.int .u64 (valB ((s.drop r.p).take w) : Int)) ∧ PR h' b s ⟨r.p + w, r.e, r.q⟩ ∧ Tch [b] h0 h'
  | 0, i, h, h1, h2, _, _ => by omega
  | f + 1, i, h, h1, h2, k, t => by
    rw [wire_Reader_number_L0_s]
    unfold wire_Reader_number_L0b
    by_cases hi : i < w
    · have hv : valB ((s.drop r.p).take i) < 72057594037927936 := Nat.lt_of_lt_of_le valB_le8 (pow_le7 (by omega))
      have hc := (s[r.p + i]'(by omega)).toNat_lt
      have hx : idxS s ((r.p + i : Nat) : Int) = some ((s[r.p + i]'(by omega)).toNat : Int) := idxS_nat (by omega)
      have hsuc := valB_succ (s := s) (p := r.p) (i := i) (by omega)
      have k0 : RowH h b 95 [strA s, .int .i64 ((r.p + i : Nat) : Int), .int .i64 r.e, .int .i64 r.q] := k
      clear k
      repeat (first | ((with_reducible first | refine Wp.lettw ?_ ?_ ?_ | refine Wp.lettu64 ?_ ?_ ?_); omega; omega) | (with_reducible refine Wp.lett ?_) | ((with_reducible apply Wp.obind); first | (with_reducible first | exact shl8 (by omega) (by omega) | exact hx | exact avInt_int _ _ | exact avStr_str _ | exact nilC_ptr _ _ | exact fldP_ptr _ _ _) | ((with_reducible apply RowH.cell'); (with_reducible assumption); rfl)) | ((with_reducible refine Wp.ift ?_ ?_); ((with_reducible apply decide_eq_true); omega)))
      refine Wp.st1 k0 (show 1 < 4 by decide) rfl (fun h' k' t' _ => ?_)
      repeat (((with_reducible refine Wp.lettw ?_ ?_ ?_); omega; omega))
      rw [or8 hv hc, ← hsuc, show (i : Int) + 1 = ((i + 1 : Nat) : Int) by omega]
      refine num_loop hw hp hs hk f (i + 1) h' (by omega) (by omega) ?_ (t.trans t')
      have e : ([strA s, .int .i64 ((r.p + i : Nat) : Int), .int .i64 r.e, .int .i64 r.q] : List AV).set 1 (.int .i64 (((r.p + i : Nat) : Int) + 1)) = rdC s ⟨r.p + (i + 1), r.e, r.q⟩ := by
        rw [show ((r.p + i : Nat) : Int) + 1 = ((r.p + (i + 1) : Nat) : Int) by omega]
        rfl
      have k2 : RowH h' b 95 _ := k'
      rw [show 0 + 1 = 1 from rfl, e] at k2
      exact k2
    · have : i = w := by omega
      subst this
      repeat (first | (with_reducible refine Wp.lett ?_) | ((with_reducible refine Wp.iff ?_ ?_); ((with_reducible apply decide_eq_false); omega)) | (with_reducible refine Wp.go1 (by assumption) ?_))
      exact Wp.ret ⟨rfl, k, t⟩
theorem number_r {w : Nat} (k : PR h b s r) (hok : r.ok s) (hw : w ≤ 8) (hs : s.length ≤ 1000000) (hn : 8 < n) {W : Int} (hW : W = (w : Int)) : ∃ h', world n (d + 2) 55 [.ptr b 0, .int .i64 W] h = some (.ret (.int .u64 ((rNum s w r).1 : Int)), h') ∧ PR h' b s (rNum s w r).2 ∧ Tch [b] h h' := by
  subst hW
  unfold RS.ok at hok
  apply Wp.ex
  rw [w_wire_Reader_number]
  unfold wire_Reader_number
  have hwh := whole_w (n := n) (d := d) k
  have ll := lenS_nat s
  unfold rNum
  by_cases he : r.e = 0
  case neg =>
    rw [decide_eq_false he] at hwh
    rw [if_pos he]
    repeat (first | (with_reducible refine Wp.lett ?_) | ((with_reducible apply Wp.obind); (with_reducible exact avBool_bool _)) | ((with_reducible refine Wp.ift ?_ ?_); (with_reducible exact Bool.not_false)) | ((with_reducible apply Wp.callN); (with_reducible assumption)))
    exact Wp.ret ⟨rfl, k, Tch.refl _ _⟩
  rw [decide_eq_true he] at hwh
  rw [if_neg (by simpa using he)]
  by_cases hl : s.length < r.p + w
  · obtain ⟨h1, e1, k1, t1⟩ := fail_w (n := n) (d := d) k 7 (r.p : Int)
    rw [if_pos hl]
    repeat (first | ((with_reducible refine Wp.lettw ?_ ?_ ?_); omega; omega) | (with_reducible refine Wp.lett ?_) | ((with_reducible apply Wp.obind); first | (with_reducible first | exact avInt_int _ _ | exact avBool_bool _ | exact avStr_str _ | exact nilC_ptr _ _ | exact fldP_ptr _ _ _) | ((with_reducible apply RowH.cell'); (with_reducible assumption); rfl)) | ((with_reducible refine Wp.ift ?_ ?_); ((with_reducible apply decide_eq_true); omega)) | ((with_reducible refine Wp.iff ?_ ?_); (with_reducible exact Bool.not_true)) | ((with_reducible apply Wp.callN); (with_reducible assumption)))
    exact Wp.ret ⟨rfl, k1, t1⟩
  · rw [if_neg hl]
    repeat (first | (with_reducible refine Wp.join1 (fun _ _ => ?_)) | ((with_reducible refine Wp.lettw ?_ ?_ ?_); omega; omega) | (with_reducible refine Wp.lett ?_) | ((with_reducible apply Wp.obind); first | (with_reducible first | exact avInt_int _ _ | exact avBool_bool _ | exact avStr_str _ | exact nilC_ptr _ _ | exact fldP_ptr _ _ _) | ((with_reducible apply RowH.cell'); (with_reducible assumption); rfl)) | ((with_reducible refine Wp.iff ?_ ?_); first | (with_reducible exact Bool.not_true) | ((with_reducible apply decide_eq_false); omega)) | ((with_reducible apply Wp.callN); (with_reducible assumption)))
    rename_i k33 hk33
    exact num_loop hw (by omega) hs hk33 n 0 h (by omega) (by omega) k (Tch.refl _ _)
theorem u8_r (k : PR h b s r) (hok : r.ok s) (hs : s.length ≤ 1000000) (hn : 8 < n) : ∃ h', world n (d + 3) 46 [.ptr b 0] h = some (.ret (.int .u8 ((rNum s 1 r).1 : Int)), h') ∧ PR h' b s (rNum s 1 r).2 ∧ Tch [b] h h' := by
  obtain ⟨h1, e1, k1, t1⟩ := number_r (n := n) (d := d) k hok (w := 1) (W := 1) (by omega) hs hn rfl
  have hlt : (rNum s 1 r).1 < 256 := rNum_lt (s := s) (w := 1) (r := r)
  apply Wp.ex
  rw [w_wire_Reader_U8]
  unfold wire_Reader_U8
  repeat (first | ((with_reducible refine Wp.lettu8 ?_ ?_ ?_); omega; omega) | ((with_reducible apply Wp.obind); (with_reducible exact avInt_int _ _)) | ((with_reducible apply Wp.callN); (with_reducible assumption)))
  exact Wp.ret ⟨rfl, k1, t1⟩
theorem u64_r (k : PR h b s r) (hok : r.ok s) (hs : s.length ≤ 1000000) (hn : 8 < n) : ∃ h', world n (d + 3) 47 [.ptr b 0] h = some (.ret (.int .u64 ((rNum s 8 r).1 : Int)), h') ∧ PR h' b s (rNum s 8 r).2 ∧ Tch [b] h h' := by
  obtain ⟨h1, e1, k1, t1⟩ := number_r (n := n) (d := d) k hok (w := 8) (W := 8) (by omega) hs hn rfl
  apply Wp.ex
  rw [w_wire_Reader_U64]
  unfold wire_Reader_U64
  repeat (first | ((with_reducible apply Wp.obind); (with_reducible exact avInt_int _ _)) | ((with_reducible apply Wp.callN); (with_reducible assumption)))
  exact Wp.ret ⟨rfl, k1, t1⟩
theorem u32_r (k : PR h b s r) (hok : r.ok s) (hs : s.length ≤ 1000000) (hn : 8 < n) : ∃ h', world n (d + 3) 49 [.ptr b 0] h = some (.ret (.int .u32 ((rNum s 4 r).1 : Int)), h') ∧ PR h' b s (rNum s 4 r).2 ∧ Tch [b] h h' := by
  obtain ⟨h1, e1, k1, t1⟩ := number_r (n := n) (d := d) k hok (w := 4) (W := 4) (by omega) hs hn rfl
  have hlt : (rNum s 4 r).1 < 4294967296 := rNum_lt (s := s) (w := 4) (r := r)
  apply Wp.ex
  rw [w_wire_Reader_U32]
  unfold wire_Reader_U32
  repeat (first | ((with_reducible refine Wp.lettu32 ?_ ?_ ?_); omega; omega) | ((with_reducible apply Wp.obind); (with_reducible exact avInt_int _ _)) | ((with_reducible apply Wp.callN); (with_reducible assumption)))
  exact Wp.ret ⟨rfl, k1, t1⟩
theorem rNum_e {w : Nat} (h : (rNum s w r).1 ≠ 0) : (rNum s w r).2.e = 0 ∧ (rNum s w r).2.p = r.p + w := by
  unfold rNum at *
  split
  · rename_i h1
    rw [if_pos h1] at h
    exact absurd rfl h
  · rename_i h1
    rw [if_neg h1] at h
    split
    · rename_i h2
      rw [if_pos h2] at h
      exact absurd rfl h
    · exact ⟨by simpa using h1, rfl⟩
theorem bool_r (k : PR h b s r) (hok : r.ok s) (hs : s.length ≤ 1000000) (hn : 8 < n) : ∃ h', world n (d + 4) 48 [.ptr b 0] h = some (.ret (.bool (rBool s r).1), h') ∧ PR h' b s (rBool s r).2 ∧ Tch [b] h h' := by
  obtain ⟨h1, e1, k1, t1⟩ := u8_r (n := n) (d := d) k hok hs hn
  have hok1 := rNum_ok (w := 1) hok
  unfold RS.ok at hok1 hok
  apply Wp.ex
  rw [w_wire_Reader_Bool]
  unfold wire_Reader_Bool rBool
  by_cases hc : 1 < (rNum s 1 r).1
  · have hp := rNum_e (s := s) (r := r) (w := 1) (by omega)
    obtain ⟨h2, e2, k2, t2⟩ := fail_w (n := n) (d := d + 2) k1 7 (r.p : Int)
    rw [if_pos hc]
    have e2' : world n (d + 3) 56 [.ptr b 0, .int .i64 7, .int .i64 (((rNum s 1 r).2.p : Int) - 1)] h1 = some (.ret (.tup []), h2) := by
      rw [show ((rNum s 1 r).2.p : Int) - 1 = (r.p : Int) by omega]
      exact e2
    repeat (first | (with_reducible refine Wp.join0 (fun _ _ => ?_)) | ((with_reducible refine Wp.lettw ?_ ?_ ?_); omega; omega) | (with_reducible refine Wp.lett ?_) | ((with_reducible apply Wp.obind); first | (with_reducible first | exact avInt_int _ _ | exact nilC_ptr _ _ | exact fldP_ptr _ _ _) | ((with_reducible apply RowH.cell'); (with_reducible assumption); rfl)) | ((with_reducible refine Wp.ift ?_ ?_); ((with_reducible apply decide_eq_true); omega)) | ((with_reducible apply Wp.callN); (with_reducible assumption)) | (with_reducible refine Wp.go0 (by assumption) ?_))
    refine Wp.ret ⟨?_, k2, t1.trans t2⟩
    rw [beq_f (by omega)]
  · rw [if_neg hc]
    repeat (first | (with_reducible refine Wp.join0 (fun _ _ => ?_)) | (with_reducible refine Wp.lett ?_) | ((with_reducible apply Wp.obind); (with_reducible exact avInt_int _ _)) | ((with_reducible refine Wp.iff ?_ ?_); ((with_reducible apply decide_eq_false); omega)) | ((with_reducible apply Wp.callN); (with_reducible assumption)) | (with_reducible refine Wp.go0 (by assumption) ?_))
    refine Wp.ret ⟨?_, k1, t1⟩
    by_cases h1 : (rNum s 1 r).1 = 1
    · rw [beq_t (by omega), decide_eq_true h1]
    · rw [beq_f (by omega), decide_eq_false h1]
theorem head_r (k : PR h b s r) (hok : r.ok s) (hs : s.length ≤ 1000000) (hn : 8 < n) {most : Nat} {M : Int} (hM : M = (most : Int)) : ∃ h', world n (d + 4) 57 [.ptr b 0, .int .i64 M] h = some (.ret (.tup [.int .u32 (if r.e = 0 then ((rNum s 4 r).1 : Int) else 0), .int .i64 (if r.e = 0 then (r.p : Int) else 0), .bool (decide ((rNum s 4 r).2.e = 0 ∧ (rNum s 4 r).1 ≤ most))]), h') ∧ PR h' b s (if (rNum s 4 r).2.e = 0 ∧ most < (rNum s 4 r).1 then ⟨(rNum s 4 r).2.p, 3, (r.p : Int)⟩ else (rNum s 4 r).2) ∧ Tch [b] h h' := by
  subst hM
  obtain ⟨h1, e1, k1, t1⟩ := u32_r (n := n) (d := d) k hok hs hn
  have hlt : (rNum s 4 r).1 < 4294967296 := rNum_lt (s := s) (w := 4) (r := r)
  have w0 := whole_w (n := n) (d := d + 2) k
  have w1 := whole_w (n := n) (d := d + 2) k1
  apply Wp.ex
  rw [w_wire_Reader_head]
  unfold wire_Reader_head
  by_cases he : r.e = 0
  case neg =>
    rw [decide_eq_false he] at w0
    have e2 : rNum s 4 r = (0, r) := by unfold rNum; rw [if_pos he]
    rw [e2] at *
    repeat (first | (with_reducible refine Wp.lett ?_) | ((with_reducible apply Wp.obind); (with_reducible exact avBool_bool _)) | ((with_reducible refine Wp.ift ?_ ?_); (with_reducible exact Bool.not_false)) | ((with_reducible apply Wp.callN); (with_reducible assumption)))
    rw [if_neg he, if_neg he, decide_eq_false (fun hh => he hh.1), if_neg (fun hh => he hh.1)]
    exact Wp.ret ⟨rfl, k, Tch.refl _ _⟩
  rw [decide_eq_true he] at w0
  rw [if_pos he, if_pos he]
  by_cases he1 : (rNum s 4 r).2.e = 0
  case neg =>
    rw [decide_eq_false he1] at w1
    rw [decide_eq_false (fun hh => he1 hh.1), if_neg (fun hh => he1 hh.1)]
    repeat (first | (with_reducible first | refine Wp.join0 (fun _ _ => ?_) | refine Wp.join1 (fun _ _ => ?_)) | (with_reducible refine Wp.lett ?_) | ((with_reducible apply Wp.obind); first | (with_reducible first | exact avInt_int _ _ | exact avBool_bool _ | exact nilC_ptr _ _ | exact fldP_ptr _ _ _) | ((with_reducible apply RowH.cell'); (with_reducible assumption); rfl)) | ((with_reducible refine Wp.iff ?_ ?_); (with_reducible first | rfl | exact Bool.not_true)) | ((with_reducible apply Wp.callN); (with_reducible assumption)) | (with_reducible first | refine Wp.go0 (by assumption) ?_ | refine Wp.go1 (by assumption) ?_))
    exact Wp.ret ⟨rfl, k1, t1⟩
  rw [decide_eq_true he1] at w1
  by_cases hc : most < (rNum s 4 r).1
  · obtain ⟨h2, e2, k2, t2⟩ := fail_w (n := n) (d := d + 2) k1 3 (r.p : Int)
    have w2 := whole_w (n := n) (d := d + 2) k2
    rw [decide_eq_false (show ¬ (3 : Int) = 0 by decide)] at w2
    rw [decide_eq_false (fun hh => by omega), if_pos ⟨he1, hc⟩]
    repeat (first | (with_reducible first | refine Wp.join0 (fun _ _ => ?_) | refine Wp.join1 (fun _ _ => ?_)) | ((with_reducible refine Wp.lettw ?_ ?_ ?_); omega; omega) | (with_reducible refine Wp.lett ?_) | ((with_reducible apply Wp.obind); first | (with_reducible first | exact avInt_int _ _ | exact avBool_bool _ | exact nilC_ptr _ _ | exact fldP_ptr _ _ _) | ((with_reducible apply RowH.cell'); (with_reducible assumption); rfl)) | ((with_reducible refine Wp.ift ?_ ?_); first | (with_reducible rfl) | ((with_reducible apply decide_eq_true); omega)) | ((with_reducible refine Wp.iff ?_ ?_); (with_reducible exact Bool.not_true)) | ((with_reducible apply Wp.callN); (with_reducible assumption)) | (with_reducible first | refine Wp.go0 (by assumption) ?_ | refine Wp.go1 (by assumption) ?_))
    exact Wp.ret ⟨rfl, k2, t1.trans t2⟩
  · rw [decide_eq_true ⟨he1, by omega⟩, if_neg (fun hh => hc hh.2)]
    repeat (first | (with_reducible first | refine Wp.join0 (fun _ _ => ?_) | refine Wp.join1 (fun _ _ => ?_)) | ((with_reducible refine Wp.lettw ?_ ?_ ?_); omega; omega) | (with_reducible refine Wp.lett ?_) | ((with_reducible apply Wp.obind); first | (with_reducible first | exact avInt_int _ _ | exact avBool_bool _ | exact nilC_ptr _ _ | exact fldP_ptr _ _ _) | ((with_reducible apply RowH.cell'); (with_reducible assumption); rfl)) | ((with_reducible refine Wp.ift ?_ ?_); (with_reducible rfl)) | ((with_reducible refine Wp.iff ?_ ?_); first | (with_reducible exact Bool.not_true) | ((with_reducible apply decide_eq_false); omega)) | ((with_reducible apply Wp.callN); (with_reducible assumption)) | (with_reducible first | refine Wp.go0 (by assumption) ?_ | refine Wp.go1 (by assumption) ?_))
    exact Wp.ret ⟨rfl, k1, t1⟩
theorem text_r (k : PR h b s r) (hok : r.ok s) (hs : s.length ≤ 1000000) (hn : 8 < n) {most : Nat} {M : Int} (hM : M = (most : Int)) : ∃ h', world n (d + 5) 50 [.ptr b 0, .int .i64 M] h = some (.ret (strA (rText s most r).1), h') ∧ PR h' b s (rText s most r).2 ∧ Tch [b] h h' := by
  obtain ⟨h1, e1, k1, t1⟩ := head_r (n := n) (d := d) k hok hs hn hM
  have hok1 := rNum_ok (w := 4) hok
  have hlt : (rNum s 4 r).1 < 4294967296 := rNum_lt (s := s) (w := 4) (r := r)
  unfold RS.ok at hok1 hok
  have ll := lenS_nat s
  apply Wp.ex
  rw [w_wire_Reader_Text]
  unfold wire_Reader_Text rText
  by_cases he1 : (rNum s 4 r).2.e = 0
  case neg =>
    rw [decide_eq_false (fun hh => he1 hh.1)] at e1
    rw [if_neg (fun hh => he1 hh.1)] at k1
    rw [if_pos he1]
    repeat (first | (with_reducible refine Wp.lett ?_) | ((with_reducible apply Wp.obind); (with_reducible first | exact avInt_int _ _ | exact avBool_bool _ | exact extT_0 _ _ | exact extT_1 _ _ _ | exact extT_2 _ _ _ _)) | ((with_reducible refine Wp.ift ?_ ?_); (with_reducible exact Bool.not_false)) | ((with_reducible apply Wp.callN); (with_reducible assumption)))
    exact Wp.ret ⟨rfl, k1, t1⟩
  rw [if_neg (by simpa using he1)]
  have he0 := (rNum_bad he1).1
  rw [if_pos he0, if_pos he0] at e1
  by_cases hc : most < (rNum s 4 r).1
  · rw [decide_eq_false (fun hh => by omega)] at e1
    rw [if_pos ⟨he1, hc⟩] at k1
    rw [if_pos hc]
    repeat (first | (with_reducible refine Wp.lett ?_) | ((with_reducible apply Wp.obind); (with_reducible first | exact avInt_int _ _ | exact avBool_bool _ | exact extT_0 _ _ | exact extT_1 _ _ _ | exact extT_2 _ _ _ _)) | ((with_reducible refine Wp.ift ?_ ?_); (with_reducible exact Bool.not_false)) | ((with_reducible apply Wp.callN); (with_reducible assumption)))
    exact Wp.ret ⟨rfl, k1, t1⟩
  rw [decide_eq_true ⟨he1, by omega⟩] at e1
  rw [if_neg (fun hh => hc hh.2)] at k1
  rw [if_neg hc]
  by_cases hl : s.length < (rNum s 4 r).2.p + (rNum s 4 r).1
  · obtain ⟨h2, e2, k2, t2⟩ := fail_w (n := n) (d := d + 3) k1 7 (r.p : Int)
    rw [if_pos hl]
    repeat (first | ((with_reducible refine Wp.lettw ?_ ?_ ?_); omega; omega) | (with_reducible refine Wp.lett ?_) | ((with_reducible apply Wp.obind); first | (with_reducible first | exact avInt_int _ _ | exact avBool_bool _ | exact avStr_str _ | exact nilC_ptr _ _ | exact fldP_ptr _ _ _ | exact extT_0 _ _ | exact extT_1 _ _ _ | exact extT_2 _ _ _ _) | ((with_reducible apply RowH.cell'); (with_reducible assumption); rfl)) | ((with_reducible refine Wp.ift ?_ ?_); ((with_reducible apply decide_eq_true); omega)) | ((with_reducible refine Wp.iff ?_ ?_); (with_reducible exact Bool.not_true)) | ((with_reducible apply Wp.callN); (with_reducible assumption)))
    exact Wp.ret ⟨rfl, k2, t1.trans t2⟩
  · rw [if_neg hl]
    repeat (first | ((with_reducible refine Wp.lettw ?_ ?_ ?_); omega; omega) | (with_reducible refine Wp.lett ?_) | ((with_reducible apply Wp.obind); first | (with_reducible first | exact avInt_int _ _ | exact avBool_bool _ | exact avStr_str _ | exact nilC_ptr _ _ | exact fldP_ptr _ _ _ | exact extT_0 _ _ | exact extT_1 _ _ _ | exact extT_2 _ _ _ _) | ((with_reducible apply RowH.cell'); (with_reducible assumption); rfl)) | ((with_reducible refine Wp.iff ?_ ?_); first | (with_reducible exact Bool.not_true) | ((with_reducible apply decide_eq_false); omega)) | ((with_reducible apply Wp.callN); (with_reducible assumption)))
    refine Wp.st1 k1 (show 1 < 4 by decide) rfl (fun h2 k2 t2 _ => ?_)
    have e3 : (rdC s (rNum s 4 r).2).set 1 (.int .i64 (((rNum s 4 r).2.p : Int) + ((rNum s 4 r).1 : Int))) = rdC s ⟨(rNum s 4 r).2.p + (rNum s 4 r).1, (rNum s 4 r).2.e, (rNum s 4 r).2.q⟩ := by
      rw [← Int.natCast_add]
      rfl
    rw [e3] at k2
    have hsl := sliceS_nat (l := s) (a := (rNum s 4 r).2.p) (b := (rNum s 4 r).2.p + (rNum s 4 r).1) (by omega) (by omega)
    rw [Nat.add_sub_cancel_left] at hsl
    repeat (((with_reducible apply Wp.obind); first | (with_reducible first | exact avInt_int _ _ | exact avStr_str _ | exact nilC_ptr _ _ | exact fldP_ptr _ _ _ | assumption) | ((with_reducible apply RowH.cell'); (with_reducible assumption); rfl)))
    exact Wp.ret ⟨rfl, k2, t1.trans t2⟩
theorem fault_r (k : PR h b s r) (hb : b < h.next) : ∃ h', world n (d + 1) 52 [.ptr b 0] h = some (.ret (.agg [.int .i64 r.e, .int .i64 r.q]), h') ∧ Tch [] h h' := by
  apply Wp.ex
  rw [w_wire_Reader_Fault]
  unfold wire_Reader_Fault
  have t0 : Tch [] h (newH h 33 [.int .i64 0, .int .i64 0]) := Tch.newH _ _ _ _
  have k0 := k.tch t0 hb (by simp)
  have kr := RowH.new h 33 [.int .i64 0, .int .i64 0]
  repeat (first | (with_reducible refine Wp.lett ?_) | ((with_reducible apply Wp.obind); (with_reducible first | exact avBool_bool _ | exact nilC_ptr _ _ | exact fldP_ptr _ _ _)) | ((with_reducible refine Wp.iff ?_ ?_); (with_reducible rfl)) | ((with_reducible apply Wp.outK); (with_reducible exact eql72 _ _)) | rw [newP_eq])
  refine Wp.obind (k0.ld (o := 0 + 2) (n := 2) (show 0 + 2 + 2 ≤ 4 by decide)) ?_
  refine Wp.stAll kr rfl rfl rfl (fun h1 k1 t1 _ => ?_)
  repeat (((with_reducible apply Wp.obind); ((with_reducible apply RowH.ldAll); (with_reducible assumption); rfl)))
  exact Wp.ret ⟨rfl, t0.trans' t1 (by intro b hb; simp at hb; subst hb; exact .inr (Nat.le_refl _))⟩
theorem end_r (k : PR h b s r) (hb : b < h.next) : ∃ h', world n (d + 2) 31 [.ptr b 0] h = some (.ret (.agg [.int .i64 (rEnd s r).1, .int .i64 (rEnd s r).2]), h') ∧ Tch [] h h' := by
  apply Wp.ex
  rw [w_wire_Reader_End]
  unfold wire_Reader_End rEnd
  have t0 : Tch [] h (newH h 33 [.int .i64 0, .int .i64 0]) := Tch.newH _ _ _ _
  have k0 := k.tch t0 hb (by simp)
  have kr := RowH.new h 33 [.int .i64 0, .int .i64 0]
  have nr := next_newH h 33 [.int .i64 0, .int .i64 0]
  have hw := whole_w (n := n) (d := d) k0
  obtain ⟨h1, e1, t1⟩ := fault_r (n := n) (d := d) k0 (by omega)
  have k1 := kr.tch t1 (by omega) (by simp)
  have ll := lenS_nat s
  by_cases hc : r.e = 0 ∧ r.p < s.length
  · rw [decide_eq_true hc.1] at hw
    obtain ⟨hc1, hc2⟩ := hc
    rw [if_pos ⟨hc1, hc2⟩]
    repeat (first | (with_reducible refine Wp.join1 (fun _ _ => ?_)) | (with_reducible refine Wp.lett ?_) | ((with_reducible apply Wp.obind); first | (with_reducible first | exact avInt_int _ _ | exact avBool_bool _ | exact avStr_str _ | exact nilC_ptr _ _ | exact fldP_ptr _ _ _) | ((with_reducible apply RowH.cell'); (with_reducible assumption); rfl)) | ((with_reducible refine Wp.ift ?_ ?_); first | (with_reducible rfl) | ((with_reducible apply decide_eq_true); omega)) | ((with_reducible apply Wp.callN); (with_reducible assumption)) | (with_reducible refine Wp.go1 (by assumption) ?_) | rw [newP_eq])
    refine Wp.stAll kr rfl rfl rfl (fun h2 k2 t2 _ => ?_)
    repeat (((with_reducible apply Wp.obind); ((with_reducible apply RowH.ldAll); (with_reducible assumption); rfl)))
    exact Wp.ret ⟨rfl, t0.trans' t2 (by intro b hb; simp at hb; subst hb; exact .inr (Nat.le_refl _))⟩
  · rw [if_neg hc]
    by_cases he : r.e = 0
    · rw [decide_eq_true he] at hw
      repeat (first | (with_reducible refine Wp.join1 (fun _ _ => ?_)) | (with_reducible refine Wp.lett ?_) | ((with_reducible apply Wp.obind); first | (with_reducible first | exact avInt_int _ _ | exact avBool_bool _ | exact avStr_str _ | exact nilC_ptr _ _ | exact fldP_ptr _ _ _ | exact avAgg_agg _) | ((with_reducible apply RowH.cell'); (with_reducible assumption); rfl)) | ((with_reducible refine Wp.ift ?_ ?_); (with_reducible rfl)) | ((with_reducible refine Wp.iff ?_ ?_); ((with_reducible apply decide_eq_false); omega)) | ((with_reducible apply Wp.callN); (with_reducible assumption)) | (with_reducible refine Wp.go1 (by assumption) ?_) | rw [newP_eq])
      refine Wp.stAll k1 rfl rfl rfl (fun h2 k2 t2 _ => ?_)
      repeat (((with_reducible apply Wp.obind); ((with_reducible apply RowH.ldAll); (with_reducible assumption); rfl)))
      exact Wp.ret ⟨rfl, (t0.trans t1).trans' t2 (by intro b hb; simp at hb; subst hb; exact .inr (Nat.le_refl _))⟩
    · rw [decide_eq_false he] at hw
      repeat (first | (with_reducible refine Wp.join1 (fun _ _ => ?_)) | (with_reducible refine Wp.lett ?_) | ((with_reducible apply Wp.obind); (with_reducible first | exact avBool_bool _ | exact avAgg_agg _)) | ((with_reducible refine Wp.iff ?_ ?_); (with_reducible rfl)) | ((with_reducible apply Wp.callN); (with_reducible assumption)) | (with_reducible refine Wp.go1 (by assumption) ?_) | rw [newP_eq])
      refine Wp.stAll k1 rfl rfl rfl (fun h2 k2 t2 _ => ?_)
      repeat (((with_reducible apply Wp.obind); ((with_reducible apply RowH.ldAll); (with_reducible assumption); rfl)))
      exact Wp.ret ⟨rfl, (t0.trans t1).trans' t2 (by intro b hb; simp at hb; subst hb; exact .inr (Nat.le_refl _))⟩
end
end Go.Proofs.Ytmibgiblejpgdaa
