/- DiskPlays. -/
import Derived.Test.YtcbnpdfingfmgaaEt
import Derived.Test.YtcbnpdfingfmgaaLPlays
namespace Go.Proofs.Ytcbnpdfingfmgaa
open Go.RowKit Abs
theorem bldI1' (h : AHeap) : bldSl Try.prog h 34 1 [(0, .int .i64 9)] = outNewS h 3 [.int .i64 9] 1 1 := by kernel_rfl
theorem RefAt.same {lo : Nat → Prop} {h : AHeap} {rb : Nat} {s s' : DS} (k : RefAt lo h rb s) (hf : ∀ f, f < 32 → s'.fs f = s.fs f) (hp : s'.p = s.p) (ho : s'.ops = s.ops) : RefAt lo h rb s' := by
  obtain ⟨D, vs, k⟩ := k
  exact ⟨D, vs, k.row, k.hrb, k.nlo, k.len, fun f hf' => by rw [hf f hf']; exact k.cells f hf', by rw [hp]; exact k.cp, by rw [ho]; exact k.co, fun f hf' => by rw [hf f hf']; exact k.rl f hf', k.nb⟩
section
variable {N n d : Nat} {a : AV} {xs : List StpR} {Q : ARes → AHeap → Prop}
theorem copy_both {lo : Nat → Prop} {h : AHeap} {db rb B : Nat} {s : DS} (hn : 1000000 < n) (W : Two N lo h db rb s B) (hB : B < 100000) {K46 : AV → AV → AHeap → R}
    (hk : ∀ H lo' db' rb' s', Two N lo' H db' rb' s' B → (∃ S, Tch S h H ∧ ∀ b ∈ S, N ≤ b) → Wp (K46 (.ptr db' 0) (.ptr rb' 0) H) Q) :
    Wp (Abs.callN (world n (d + 5) 21 [.ptr db 0] h) fun r25 h_58 =>
      Abs.callN (world n (d + 5) 24 [.ptr rb 0] h_58) fun r27 h_60 =>
      Abs.outK (opBin Try.prog h_60 .eql 23 true (some r25) (some AV.nilp)) fun v29 h_64 =>
      Abs.obind (avBool v29) fun t29 =>
      ifB t29
      (
        some (.ret (.bool false), h_64))
      (
        Abs.callN (world n (d + 5) 9 [.ptr db 0, .int .i64 0, strA ([115, 112, 111, 105, 108, 116] : Bytes)] h_64) fun r31 h_69 =>
        Abs.obind (avInt .i64 r31) fun _ =>
        Abs.outK (bldSl Try.prog h_69 34 1 [(0, .int .i64 9)]) fun v33 h_73 =>
        Abs.callN (world n (d + 5) 14 [.ptr db 0, v33, .int .i64 1] h_73) fun r34 h_75 =>
        Abs.obind (avInt .i64 r34) fun _ =>
        K46 r25 r27 h_75)) Q := by
  obtain ⟨h4, e4, t4, Kc, lt4⟩ := copyD_ok (n := n) (d := d + 2) hn W.K (by omega)
  have W4 := W.part t4
  have hN := W.hN
  have V4 : RefAt (fun b => shr lo h.next h4.next b ∨ h.next ≤ b) h4 rb s := W.V.tch t4 (fun _ h => nomatch h) (fun b hb hlt => by
    rcases hb with hb | hb
    · exact hb.1
    · omega)
  obtain ⟨h5, e5, t5, V5, lt5⟩ := copyR_ok (n := n) (d := d + 4) V4
  have Kd5 := W4.K.part t5 (fun _ h => nomatch h)
  have Kc5 := Kc.part t5 (fun _ h => nomatch h)
  refine Wp.callN e4 (Wp.callN e5 (Wp.outK (eqDisk _ _ _) (Wp.obind (avBool_bool _) (Wp.iff rfl ?_))))
  obtain ⟨h6, S6, e6, Kd6, t6, hS6⟩ := append_ok (n := n) (d := d + 2) (u := [115, 112, 111, 105, 108, 116]) (z := 0) hn Kd5 (by show B + 6 < _; omega)
  have n4 := t4.1
  have n5 := t5.1
  have n6 := t6.1
  have s6 : ∀ b ∈ S6, b < h.next ∨ h5.next ≤ b := fun b hb => by
    have h1 := (hS6 b hb).1.2
    have h2 := (hS6 b hb).2
    omega
  have Kc6 := Kc5.part t6 (fun b hb => by
    rcases s6 b hb with h1 | h1
    · exact .inl (fun hh => by have := hh.1; omega)
    · exact .inr h1)
  have V6 : RefAt (shr (fun b => shr lo h.next h4.next b ∨ h.next ≤ b) h4.next h5.next) h6 h4.next s := V5.tch t6 (fun b hb => .inl ⟨.inl (hS6 b hb).1, (hS6 b hb).2⟩) (fun _ h _ => h)
  refine Wp.callN e6 (Wp.obind (avInt_int _ _) (Wp.mnews (Mem.nil [] h6) (bldI1' _) rfl (by rw [Kd6.ex]; rfl) fun h7 M7 => ?_))
  have t7 := M7.tch
  have n7 := t7.1
  have kr := M7.at0.1
  have lt7 := M7.at0.2.1
  have Kd7 := Kd6.part t7 (fun _ h => nomatch h)
  have Kc7 := Kc6.part t7 (fun _ h => nomatch h)
  have V7 : RefAt (shr (fun b => shr lo h.next h4.next b ∨ h.next ≤ b) h4.next h5.next) h7 h4.next s := V6.tch t7 (fun _ h => nomatch h) (fun _ h _ => h)
  obtain ⟨h8, S8, e8, Kd8, t8, hS8⟩ := crash_ok (n := n) (d := d + 1) (torn := 1) (lv := .sl h6.next 0 1 1) (zs := [9]) hn (by show B + 6 + 2 < _; omega) (by decide) (by decide) Kd7 ⟨rfl, fun S H t hS i hi => by
    have hi0 : i = 0 := by
      have : i < 1 := hi
      omega
    subst hi0
    refine ⟨_, idx1 (by decide), RowH.cell' (kr.tch t lt7 fun hm => ?_) rfl⟩
    rcases (hS _ hm).2 with h1 | h1 <;> omega⟩
  have n8 := t8.1
  have s8 : ∀ b ∈ S8, (b < h.next ∨ h4.next ≤ b) ∧ (b < h4.next ∨ h5.next ≤ b) ∧ (b < h6.next ∨ h7.next ≤ b) := fun b hb => ⟨(hS8 b hb).1.1.2, (hS8 b hb).1.2, (hS8 b hb).2⟩
  have Kc8 := Kc7.tch t8 (fun b hb => by
    have h1 := s8 b hb
    by_cases h2 : h7.next ≤ b
    · exact .inr h2
    · refine .inl fun hh => ?_
      have c1 := hh.2
      have c2 := hh.1.2
      have c3 := hh.1.1.2
      have c4 : h.next ≤ b := hh.1.1.1
      omega)
  refine Wp.callN e8 (Wp.obind (avInt_int _ _) ?_)
  have hfs : ∀ f, f < 32 → copyTo s.fs 32 f = s.fs f := fun f hf => if_pos hf
  have T4 : Tch [] h h5 := t4.trans t5
  refine hk h8 _ h.next h4.next ⟨copyTo s.fs 32, s.p, s.ops⟩ ⟨Kc8, ?_, fun f hf => ?_, fun b hb => ?_, by omega, by omega⟩ ⟨S6 ++ S8, ?_, fun b hb => ?_⟩
  · refine RefAt.same (s := s) (V7.tch t8 (fun b hb => .inl ⟨.inl (hS8 b hb).1.1, (hS8 b hb).1.2⟩) (fun b hb _ => ?_)) hfs rfl rfl
    exact ⟨.inr hb.1.1.1, hb.1.1.2⟩
  · show LegalT (copyTo s.fs 32 f).sure (copyTo s.fs 32 f).loose
    rw [hfs f hf]
    exact W.L f hf
  · have c4 : h.next ≤ b := hb.1.1.1
    omega
  · exact (((T4.mono fun _ hb => nomatch hb).trans (t6.mono fun _ hb => .inl (List.mem_append_left _ hb))).trans (t7.mono fun _ hb => nomatch hb)).trans (t8.mono fun _ hb => .inl (List.mem_append_right _ hb))
  · rcases List.mem_append.1 hb with hb | hb
    · exact W.hl b (hS6 b hb).1.1
    · exact W.hl b (hS8 b hb).1.1.1
theorem plays_loop (hn : reachBytes < n) {k24 : AHeap → R} (hl : xs.length ≤ 100) (hk : ∀ H, Wp (k24 H) Q) :
    ∀ (todo : List StpR) (i fu : Nat) (H : AHeap) (lo : Nat → Prop) (db rb : Nat) (s : DS) (B : Nat), xs.drop i = todo → todo.length < fu → Two N lo H db rb s B → Slc N H 5 a (xs.map stpC) → (∀ x ∈ xs, StpOk N H x) → B + sumS todo + 2 * todo.length ≤ 20000 →
      Wp (law04_DiskPlays_L0 (world n (d + 5)) a (xs.length : Int) k24 fu (.ptr db 0) (.ptr rb 0) (i : Int) H) Q
  | _, _, 0, _, _, _, _, _, _, _, hf, _, _, _, _ => by omega
  | [], i, fu + 1, H, lo, db, rb, s, B, hd, hf, W, hs, ho, hB => by
    have := dropN hd
    rw [law04_DiskPlays_L0_s]
    unfold law04_DiskPlays_L0b
    refine Wp.lett (Wp.iff (by rw [decide_eq_false_iff_not]; omega) ?_)
    exact hk H
  | c :: todo, i, fu + 1, H, lo, db, rb, s, B, hd, hf, W, hs, ho, hB => by
    have hrb : reachBytes = 140737488351232 := rfl
    obtain ⟨hi, hci, hd2⟩ := dropC hd
    rw [List.length_cons] at hf hB
    obtain ⟨b, hb, e1, e2⟩ := hs.row (i := i) (by rw [List.length_map]; exact hi)
    rw [List.getElem_map, hci] at e2
    have hoc := ho c (hci ▸ List.getElem_mem hi)
    have hss : sumS (c :: todo) = c.s.length + sumS todo := rfl
    have keep : ∀ {S : List Nat} {H' : AHeap}, Tch S H H' → (∀ b ∈ S, N ≤ b) → Slc N H' 5 a (xs.map stpC) ∧ ∀ x ∈ xs, StpOk N H' x := fun t hS => ⟨hs.tch t W.hN hS, fun x hx => by
      obtain ⟨q1, q2, q3, q4, zs, q5, q6⟩ := ho x hx
      exact ⟨q1, q2, q3, q4, zs, q5.tch t W.hN hS, q6⟩⟩
    rw [law04_DiskPlays_L0_s]
    unfold law04_DiskPlays_L0b
    refine Wp.lett (Wp.ift (by rw [decide_eq_true_eq]; omega) ?_)
    refine Wp.obind e1 (Wp.obind e2 ?_)
    refine Wp.mnew (Mem.nil [] H) fun h2 M2 => ?_
    rw [newP_eq]
    refine Wp.sa0 M2 rfl rfl (stp_one hoc.one) fun h3 M3 => ?_
    have t3 := M3.tch
    have W3 := W.part t3
    refine Wp.ld0 M3 (show (stpC c)[0]? = some (.int .i64 c.k) from rfl) (Wp.obind (avInt_int _ _) (Wp.lett (Wp.lettG fun k46 e46 => ?_)))
    have go : ∀ (H' : AHeap) (lo' : Nat → Prop) (db' rb' : Nat) (s' : DS), Two N lo' H' db' rb' s' (B + c.s.length + 2) → (∃ S, Tch S h3 H' ∧ ∀ b ∈ S, N ≤ b) → Wp (k46 (.ptr db' 0) (.ptr rb' 0) H') Q := by
      intro H' lo' db' rb' s' W' hT
      obtain ⟨S, tS, hS⟩ := hT
      rw [e46]
      obtain ⟨h9, e9, t9⟩ := alike_ok (n := n) (d := d) (by omega) W'.K W'.V W'.dok (by omega)
      refine Wp.callN e9 (Wp.obind (avBool_bool _) (Wp.lett (Wp.iff rfl (Wp.lettw (by omega) (by omega) ?_))))
      rw [show (i : Int) + 1 = ((i + 1 : Nat) : Int) by omega]
      have T : Tch S H h9 := ((t3.mono fun _ hb => nomatch hb).trans tS).trans (t9.mono fun _ hb => nomatch hb)
      obtain ⟨hs9, ho9⟩ := keep T hS
      exact plays_loop hn hl hk todo (i + 1) fu h9 _ db' rb' s' _ hd2 (by omega) (W'.part t9) hs9 ho9 (by omega)
    by_cases h6 : c.k = 6
    · refine Wp.ift (beq_t h6) ?_
      refine copy_both (d := d) (by omega) W3 (by omega) fun H' lo' db' rb' s' W' hT => ?_
      exact go H' lo' db' rb' s' ⟨W'.K.mono (by omega), W'.V, W'.L, W'.hl, W'.hr, W'.hN⟩ hT
    · refine Wp.iff (beq_f h6) (Wp.lr0 M3 rfl ?_)
      obtain ⟨_, ho3⟩ := keep (S := []) t3 (fun _ h => nomatch h)
      obtain ⟨h5, lo5, s5, e5, W5, hT⟩ := does_ok (n := n) (d := d) hn W3 (ho3 c (hci ▸ List.getElem_mem hi)) (by omega) (by omega)
      refine Wp.callN e5 (Wp.obind (avBool_bool _) (Wp.lett (Wp.iff rfl ?_)))
      exact go h5 lo5 db rb s5 W5 hT
end
set_option maxRecDepth 100000 in
/-- the law -/
theorem diskPlays_says (h : AHeap) (hX : h.ex = []) (xs : List AV) (hP : ArgsP Try.prog h.next h 12 [38] xs) : ∃ h', Says Try.prog 4 xs h (.ret (.bool true)) h' := by
  obtain ⟨a, _, rfl, hp0, hP⟩ := args_cons hP
  obtain rfl := args0 hP
  obtain ⟨l, hs, hok, hl⟩ := script_of hp0
  have hrb : reachBytes = 140737488351232 := rfl
  obtain ⟨n, hn⟩ : ∃ n, 140737488351232 < n := ⟨140737488351233, Nat.lt_succ_self _⟩
  suffices hK : Wp (law04_DiskPlays (world n 5) n a h) fun r _ => r = .ret (.bool true) by
    obtain ⟨_, h', e, rfl⟩ := hK
    exact ⟨h', law04_DiskPlays_ok (world_ok n 5) e⟩
  unfold law04_DiskPlays
  refine Wp.callN (show world n 5 7 [] h = some (.ret (.bool true), h) from w_true n 4 [] h) (Wp.obind (avBool_bool _) (Wp.lett (Wp.iff rfl ?_)))
  obtain ⟨h2, b, e2, t2, hb⟩ := heavy_w (n := n) (d := 4) hs (Nat.le_refl _) (fun x hx => ⟨(hok x hx).2.2.2.1, (hok x hx).one⟩) hl (by omega)
  refine Wp.callN e2 (Wp.obind (avBool_bool _) ?_)
  cases b with
  | true => exact Wp.ift rfl (Wp.ret rfl)
  | false =>
    obtain ⟨hb1, hb2⟩ := hb rfl
    refine Wp.iff rfl ?_
    have hx2 : h2.ex = [] := by rw [t2.2.1, hX]
    obtain ⟨h3, e3, K3, t3⟩ := new_ok (n := n) (d := 4) hx2
    have n2 := t2.1
    have n3 := t3.1
    have lt3 : h2.next < h3.next := by
      obtain ⟨_, _, K⟩ := K3
      exact K.hdb
    -- the document's: its row is not the disk's
    obtain ⟨h4, e4, t4, V4, lt4⟩ := newR_ok (n := n) (d := 4) (h := h3) (lo := fun b => h2.next ≤ b ∧ b < h3.next) (fun hh => by have := hh.2; omega)
    have K4 := K3.part t4 (fun _ h => nomatch h)
    have n4 := t4.1
    refine Wp.callN e3 (Wp.callN e4 ?_)
    have hlen := hs.len
    rw [List.length_map] at hlen
    refine Wp.obind hlen (Wp.lettG fun k24 e24 => ?_)
    have T : Tch [] h h4 := (t2.trans t3).trans t4
    have V4' : RefAt (shr (fun b => h2.next ≤ b) h3.next h4.next) h4 h3.next newS := by
      obtain ⟨D, vs, V⟩ := V4
      refine ⟨D, vs, V.row, V.hrb, fun hh => ?_, V.len, V.cells, V.cp, V.co, V.rl, fun f hf b hb => ?_⟩
      · rcases hh.2 with h | h <;> omega
      · rcases V.rl f hf with ⟨e, _⟩ | ⟨c, e, h1, _⟩
        · rw [e] at hb
          exact nomatch hb
        · exact absurd rfl h1
    refine plays_loop (n := n) (d := 0) (N := h.next) (xs := l) (by omega) hb2 (fun H => ?_) l 0 n h4 _ h2.next h3.next newS 0 (List.drop_zero) (by omega) ⟨K4, V4', fun f hf => trivial, fun b hb => Nat.le_trans n2 hb.1, by omega, by omega⟩ (hs.tch T (Nat.le_refl _) (fun _ h => nomatch h)) (fun x hx => ?_) (by omega)
    · rw [e24]
      exact Wp.ret rfl
    · obtain ⟨q1, q2, q3, q4, zs, q5, q6⟩ := hok x hx
      exact ⟨q1, q2, q3, q4, zs, q5.tch T (Nat.le_refl _) (fun _ h => nomatch h), q6⟩
end Go.Proofs.Ytcbnpdfingfmgaa
