/- NetOnce. -/
import Derived.Test.YthdkfofkghpmcaaFg
import Derived.Test.YthdkfofkghpmcaaLOnce
namespace Go.Proofs.Ythdkfofkghpmcaa
open Go.RowKit Abs
theorem idxM1 {b A : Nat} (h : A < 16) : idxA 16 16 (.ptr b 0) (A : Int) = some (.ptr b (0 + A * 16)) := by
  have e : Nat.blt A 16 = true := by simpa using h
  show (match Nat.blt A 16 with | true => some (AV.ptr b (0 + A * 16)) | false => none) = _
  rw [e]
theorem idxM2 {b o B : Nat} (h : B < 16) : idxA 16 1 (.ptr b o) (B : Int) = some (.ptr b (o + B * 1)) := by
  have e : Nat.blt B 16 = true := by simpa using h
  show (match Nat.blt B 16 with | true => some (AV.ptr b (o + B * 1)) | false => none) = _
  rw [e]
def Big (N : Nat) (H H' : AHeap) : Prop := ∃ S, Tch S H H' ∧ ∀ b ∈ S, N ≤ b
theorem Big.trans {N : Nat} {a b c : AHeap} (x : Big N a b) (y : Big N b c) : Big N a c := by
  obtain ⟨S, t, h⟩ := x
  obtain ⟨S', t', h'⟩ := y
  exact ⟨S ++ S', (t.mono fun _ hb => .inl (List.mem_append_left _ hb)).trans (t'.mono fun _ hb => .inl (List.mem_append_right _ hb)), fun b hb => (List.mem_append.1 hb).elim (h b) (h' b)⟩
theorem Big.of {N : Nat} {a b : AHeap} (t : Tch [] a b) : Big N a b := ⟨[], t, fun _ h => nomatch h⟩
section
variable {N nb cb n d : Nat} {lo : Nat → Prop} {H : AHeap} {s : NS} {sv gv a : AV} {sent : List Lt} {gone : List Bool} {CM : List AV} {Q : ARes → AHeap → Prop} {xs : List Opr}
/-- one letter more on the law's own lists -/
theorem push_both (W : OM N lo H nb s cb sv gv sent gone CM) (hl : sent.length < 100000) (hg : gone.length < 100000) {z x y : Int} {u : Bytes} {K : AV → AV → AHeap → R}
    (hk : ∀ H' lo' sv' gv', OM N lo' H' nb s cb sv' gv' (sent ++ [⟨z, x, y, u⟩]) (gone ++ [false]) CM → Big N H H' → Wp (K sv' gv' H') Q) :
    Wp (Abs.outK (bldSl Try.prog H TLets 1 [(0, .agg [.int .i64 z, .int .i64 x, .int .i64 y, strA u])]) fun v91 h_133 =>
      Abs.outK (opAppend Try.prog h_133 TLets TLets sv v91) fun v92 h_135 =>
      Abs.outK (bldSl Try.prog h_135 48 1 [(0, .bool false)]) fun v94 h_137 =>
      Abs.outK (opAppend Try.prog h_137 48 48 gv v94) fun v95 h_139 =>
      K v92 v95 h_139) Q := by
  refine Wp.mnews (Mem.nil [] H) (bldLt _ _ _ _ _) rfl (by rw [W.K.ex]; rfl) fun h7 M7 => ?_
  have t7 := M7.tch
  have W7 := W.part t7
  obtain ⟨h8, e8, S8, t8, lt8⟩ := W7.S.push (l := ⟨z, x, y, u⟩) M7.at0.1 (by omega) W7.K.ex
  have W8 := W7.setS t8 S8 (fun b hb => by
    have := List.mem_singleton.1 hb
    omega)
  refine Wp.outK e8 (Wp.mnews (Mem.nil [] h8) (bldBool _) rfl (by rw [W8.K.ex]; rfl) fun h9 M9 => ?_)
  have t9 := M9.tch
  have W9 := W8.part t9
  obtain ⟨h10, v10, e10, G10, t10, b10, lt10⟩ := W9.G.push M9.at0.1 (by omega) W9.K.ex
  have W10 := W9.setG t10 G10 (fun b hb => .inl (by
    rw [b10] at hb
    have := List.mem_singleton.1 hb
    omega))
  refine Wp.outK e10 (hk h10 _ _ _ W10 ?_)
  exact (((Big.of t7).trans ⟨_, t8, fun b hb => (W7.nS b hb).2⟩).trans (Big.of t9)).trans ⟨_, t10, fun b hb => (W9.nG b hb).2⟩
set_option maxHeartbeats 4000000 in
theorem once_loop (hn : 1000000 < n) {h16 : AHeap} (hcb : cb = h16.next) (hl : xs.length ≤ 400) {k26 : AV → AV → AV → AHeap → R}
    (hk : ∀ H lo nb s sv gv sent gone CM, OM N lo H nb s cb sv gv sent gone CM → Inv s sent gone CM → s.last ≤ 400 → Wp (k26 (.ptr nb 0) sv gv H) Q) :
    ∀ (todo : List Opr) (i fu : Nat) (H : AHeap) (lo : Nat → Prop) (nb : Nat) (s : NS) (sv gv : AV) (sent : List Lt) (gone : List Bool) (CM : List AV), xs.drop i = todo → todo.length < fu → OM N lo H nb s cb sv gv sent gone CM → Inv s sent gone CM → Slc N H 4 a (xs.map opC) → s.last ≤ i → i ≤ xs.length →
      Wp (law05_NetOnce_L1 (world n (d + 8)) a h16 k26 fu (.ptr nb 0) sv gv (i : Int) H) Q
  | _, _, 0, _, _, _, _, _, _, _, _, _, _, hf, _, _, _, _, _ => by omega
  | [], i, fu + 1, H, lo, nb, s, sv, gv, sent, gone, CM, hd, hf, W, I, hs, hi, hix => by
    have := dropN hd
    have hlen := hs.len
    rw [List.length_map] at hlen
    rw [law05_NetOnce_L1_s]
    unfold law05_NetOnce_L1b
    refine Wp.obind hlen (Wp.lett (Wp.iff (by rw [decide_eq_false_iff_not]; omega) ?_))
    exact hk H lo nb s sv gv sent gone CM W I (by omega)
  | o :: todo, i, fu + 1, H, lo, nb, s, sv, gv, sent, gone, CM, hd, hf, W, I, hs, hi, hix => by
    obtain ⟨hil, hci, hd2⟩ := dropC hd
    rw [List.length_cons] at hf
    obtain ⟨b, i1, r1, _⟩ := op_row hs hil
    rw [hci] at r1
    have hlen := hs.len
    rw [List.length_map] at hlen
    have hsl := I.len
    have hgl := I.glen
    rw [law05_NetOnce_L1_s]
    unfold law05_NetOnce_L1b
    refine Wp.obind hlen (Wp.lett (Wp.ift (by rw [decide_eq_true_eq]; omega) (Wp.obind i1 (Wp.obind r1 (Wp.mnew (Mem.nil [] H) fun h2 M2 => ?_)))))
    rw [newP_eq]
    refine Wp.sa0 M2 rfl rfl rfl fun h3 M3 => Wp.lr0 M3 rfl ?_
    have t3 := M3.tch
    have lt3 := M3.at0.2.1
    have W3 := W.part t3
    obtain ⟨h4, lo4, nb4, S4, e4, K4, hl4, t4, hS4⟩ := play_ok (n := n) (d := d) hn W3.K (by omega) o
    have W4 := W3.step t4 hS4 K4 hl4
    have n4 := t4.1
    have ob4 := M3.at0.1.tch t4 lt3 (fun hm => by
      rcases (hS4 _ hm).2 with h | h <;> omega)
    refine Wp.callN e4 (Wp.obind (extT_0 _ _) (Wp.obind (extT_1 _ _ _) (Wp.obind (avAgg_agg _) (Wp.mnew (Mem.nil [] h4) fun h5 M5 => ?_))))
    rw [newP_eq]
    refine Wp.sa0 M5 rfl rfl rfl fun h6 M6 => Wp.outK (eqNet nb4 0 h6) (Wp.obind (avBool_bool _) (Wp.iff rfl ?_))
    have t6 := M6.tch
    have W6 := W4.part t6
    have ob := ob4.tch t6 (Nat.lt_of_lt_of_le lt3 n4) (fun h => nomatch h)
    have tb := M6.at0.1
    have B6 : Big N H h6 := ((Big.of t3).trans ⟨S4, t4, fun b hb => W3.hl b (hS4 b hb)⟩).trans (Big.of t6)
    have g0 : (opC o)[0]? = some (.int .i64 o.k) := rfl
    have g1 : (opC o)[1]? = some (.int .i64 o.a) := rfl
    have g2 : (opC o)[2]? = some (.int .i64 o.b) := rfl
    have g3 : (opC o)[3]? = some (strA o.s) := rfl
    have c0 : (tdC (playT s o))[0]? = some (.int .i64 (playT s o).id) := rfl
    have c5 : (tdC (playT s o))[5]? = some (.int .i64 (playT s o).e) := rfl
    refine Wp.obind (RowH.cell' ob g0) (Wp.obind (avInt_int _ _) (Wp.lett (Wp.lettG fun k106 e106 => ?_)))
    have next : ∀ (H' : AHeap) (lo' : Nat → Prop) (sv' gv' : AV) (sent' : List Lt) (gone' : List Bool) (CM' : List AV), OM N lo' H' nb4 (playN s o) cb sv' gv' sent' gone' CM' → Inv (playN s o) sent' gone' CM' → Big N h6 H' → (playN s o).last ≤ i + 1 → Wp (k106 sv' gv' H') Q := by
      intro H' lo' sv' gv' sent' gone' CM' W' I' B' hlast
      rw [e106]
      refine Wp.lettw (by omega) (by omega) ?_
      rw [show (i : Int) + 1 = ((i + 1 : Nat) : Int) by omega]
      obtain ⟨S, t, hS⟩ := B6.trans B'
      exact once_loop hn hcb hl hk todo (i + 1) fu H' lo' nb4 (playN s o) sv' gv' sent' gone' CM' hd2 (by omega) W' I' (hs.tch t W.hN hS) hlast (by omega)
    have lenS : lenL sv = some (sent.length : Int) := W6.S.len
    by_cases h1 : o.k = 1
    · have et : playT s o = ⟨(sendR s o.a o.b o.s).1, zeroL, (sendR s o.a o.b o.s).2⟩ := if_pos h1
      have es : playN s o = sendN s o.a o.b o.s := if_pos h1
      refine Wp.ift (beq_t h1) (Wp.obind (RowH.cell' tb c5) (Wp.obind (avInt_int _ _) (Wp.lett (Wp.lettG fun k115 e115 => ?_))))
      by_cases he : (playT s o).e = 0
      · obtain ⟨ha, hb, hc, hid, hs'⟩ := send_yes (s := s) (a := o.a) (b := o.b) (u := o.s) (by rw [et] at he; exact he)
        have hI : (playT s o).id = (s.last : Int) + 1 := by rw [et]; exact hid
        obtain ⟨A, hA, hA16⟩ : ∃ A : Nat, o.a = (A : Int) ∧ A < 16 := ⟨o.a.toNat, by have := ha.1; omega, by have := ha.2; omega⟩
        obtain ⟨B, hB, hB16⟩ : ∃ B : Nat, o.b = (B : Int) ∧ B < 16 := ⟨o.b.toNat, by have := hb.1; omega, by have := hb.2; omega⟩
        refine Wp.ift (beq_t he) (Wp.lettG fun k121 e121 => Wp.obind (RowH.cell' tb c0) (Wp.obind (avInt_int _ _) (Wp.obind lenS (Wp.lettw (by omega) (by omega) (Wp.lett (Wp.iff (bne_f (by omega)) ?_))))))
        refine Wp.obind (RowH.cell' ob g1) (Wp.obind (avInt_int _ _) (Wp.lett (Wp.iff (by rw [decide_eq_false_iff_not]; omega) ?_)))
        refine Wp.obind (RowH.cell' ob g1) (Wp.obind (avInt_int _ _) (Wp.lett (Wp.iff (by rw [decide_eq_false_iff_not]; omega) ?_)))
        refine Wp.obind (RowH.cell' ob g2) (Wp.obind (avInt_int _ _) (Wp.lett (Wp.iff (by rw [decide_eq_false_iff_not]; omega) ?_)))
        refine Wp.obind (RowH.cell' ob g2) (Wp.obind (avInt_int _ _) (Wp.lett (Wp.iff (by rw [decide_eq_false_iff_not]; omega) ?_)))
        refine Wp.obind (RowH.cell' ob g1) (Wp.obind (avInt_int _ _) (Wp.obind (RowH.cell' ob g2) (Wp.obind (avInt_int _ _) ?_)))
        have hm := I.m A B hA16 hB16
        rw [← hA, ← hB, decide_eq_false hc] at hm
        have hcell : ldCell h6 (.ptr cb (0 + A * 16 + B * 1)) = some (.bool false) := RowH.cell' W6.C (by rw [Nat.zero_add, Nat.mul_one]; exact hm)
        have q1 : idxA 16 16 (.ptr h16.next 0) o.a = some (.ptr cb (0 + A * 16)) := by rw [hA, hcb]; exact idxM1 hA16
        have q2 : idxA 16 1 (.ptr cb (0 + A * 16)) o.b = some (.ptr cb (0 + A * 16 + B * 1)) := by rw [hB]; exact idxM2 hB16
        refine Wp.obind q1 (Wp.obind q2 (Wp.obind hcell (Wp.obind (avBool_bool _) ?_)))
        rw [e121]
        refine Wp.iff rfl (Wp.obind (RowH.cell' tb c0) (Wp.obind (avInt_int _ _) (Wp.obind (RowH.cell' ob g1) (Wp.obind (avInt_int _ _) (Wp.obind (RowH.cell' ob g2) (Wp.obind (avInt_int _ _) (Wp.obind (RowH.cell' ob g3) (Wp.obind (avStr_str _) ?_))))))))
        rw [hI]
        refine push_both W6 (by omega) (by omega) fun H' lo' sv' gv' W' B' => ?_
        rw [e115]
        have hps : playN s o = addS s o.a o.b o.s := es.trans hs'
        refine next H' lo' sv' gv' _ _ _ W' ?_ B' ?_
        · rw [hps]
          exact I.add _ _ _
        · rw [hps]
          show s.last + 1 ≤ i + 1
          omega
      · have hs' := send_no (s := s) (a := o.a) (b := o.b) (u := o.s) (by rw [et] at he; exact he)
        refine Wp.iff (beq_f he) ?_
        rw [e115]
        have hps : playN s o = s := es.trans hs'
        exact next h6 _ sv gv sent gone CM W6 (by rw [hps]; exact I) (Big.of (Tch.refl _ _)) (by rw [hps]; omega)
    refine Wp.iff (beq_f h1) (Wp.lett (Wp.lettG fun k168 e168 => ?_))
    by_cases h4' : o.k = 4
    · have et : playT s o = ⟨(twR s o.a).1, zeroL, (twR s o.a).2⟩ := (if_neg h1).trans ((if_neg (by omega)).trans ((if_neg (by omega)).trans (if_pos h4')))
      have es : playN s o = twN s o.a := (if_neg h1).trans ((if_neg (by omega)).trans ((if_neg (by omega)).trans (if_pos h4')))
      refine Wp.ift (beq_t h4') (Wp.obind (RowH.cell' tb c5) (Wp.obind (avInt_int _ _) (Wp.lett (Wp.lettG fun k176 e176 => ?_))))
      by_cases he : (playT s o).e = 0
      · obtain ⟨k, hf', hid, hs'⟩ := tw_yes (s := s) (z := o.a) (by rw [et] at he; exact he)
        have hI : (playT s o).id = (s.last : Int) + 1 := by rw [et]; exact hid
        obtain ⟨j, l, hz, hj1, hj2, hkl, _⟩ := I.fnd hf'
        obtain ⟨hjl, hjl2⟩ := List.getElem?_eq_some_iff.1 hj1
        have hgd : s.ls.getD k zeroL = l := by rw [List.getD_eq_getElem?_getD, hkl]; rfl
        obtain ⟨pg, ig, rg⟩ := W6.G.at hj2
        obtain ⟨ps, is_, rs⟩ := W6.S.row hjl
        rw [hjl2] at rs
        have hz1 : o.a - 1 = (j : Int) := by omega
        refine Wp.ift (beq_t he) (Wp.obind (RowH.cell' tb c0) (Wp.obind (avInt_int _ _) (Wp.obind lenS (Wp.lettw (by omega) (by omega) (Wp.lett (Wp.lettG fun j111 e111 => Wp.iff (bne_f (by omega)) ?_))))))
        refine Wp.obind (RowH.cell' ob g1) (Wp.obind (avInt_int _ _) (Wp.lett ?_))
        rw [decide_eq_false (show ¬ o.a < 1 by omega), e111]
        refine Wp.lettG fun j118 e118 => Wp.iff rfl (Wp.obind (RowH.cell' ob g1) (Wp.obind (avInt_int _ _) (Wp.obind lenS (Wp.lett ?_))))
        rw [decide_eq_false (show ¬ o.a > (sent.length : Int) by omega), e118]
        refine Wp.lettG fun j126 e126 => Wp.iff rfl (Wp.obind (RowH.cell' ob g1) (Wp.obind (avInt_int _ _) (Wp.lettw (by omega) (by omega) ?_)))
        rw [hz1]
        refine Wp.obind ig (Wp.obind rg (Wp.obind (avBool_bool _) ?_))
        rw [e126]
        refine Wp.iff rfl (Wp.obind (RowH.cell' ob g1) (Wp.obind (avInt_int _ _) (Wp.lettw (by omega) (by omega) ?_)))
        rw [hz1]
        refine Wp.obind is_ (Wp.obind rs (Wp.mnew (Mem.nil [] h6) fun h7 M7 => ?_))
        rw [newP_eq]
        refine Wp.sa0 M7 rfl rfl rfl fun h8 M8 => ?_
        have t8 := M8.tch
        have tb8 := tb.tch t8 M6.at0.2.1 (fun h => nomatch h)
        refine Wp.obind (RowH.cell' tb8 c0) (Wp.obind (avInt_int _ _) ?_)
        rw [hI]
        refine Wp.ms0 M8 (show 0 < 4 by decide) rfl fun h9 M9 => Wp.lr0 M9 rfl ?_
        have W9 := W6.part M9.tch
        refine push_both (z := (s.last : Int) + 1) (x := l.a) (y := l.b) (u := l.s) W9 (by omega) (by omega) fun H' lo' sv' gv' W' B' => ?_
        rw [e176, e168]
        have hps : playN s o = addS s l.a l.b l.s := by rw [es, hs', hgd]
        refine next H' lo' sv' gv' _ _ _ W' ?_ ((Big.of M9.tch).trans B') ?_
        · rw [hps]
          exact I.add _ _ _
        · rw [hps]
          show s.last + 1 ≤ i + 1
          omega
      · have hs' := tw_no (s := s) (z := o.a) (by rw [et] at he; exact he)
        refine Wp.iff (beq_f he) ?_
        rw [e176, e168]
        have hps : playN s o = s := es.trans hs'
        exact next h6 _ sv gv sent gone CM W6 (by rw [hps]; exact I) (Big.of (Tch.refl _ _)) (by rw [hps]; omega)
    refine Wp.iff (beq_f h4') (Wp.lett (Wp.lettG fun k238 e238 => ?_))
    by_cases h23 : o.k = 2 ∨ o.k = 3
    · have ee : (playT s o).e = (delR s o.a).2 := by
        rcases h23 with h | h
        · rw [show playT s o = ⟨0, (delR s o.a).1, (delR s o.a).2⟩ from (if_neg h1).trans (if_pos h)]
        · rw [show playT s o = ⟨0, zeroL, (delR s o.a).2⟩ from (if_neg h1).trans ((if_neg (by omega)).trans (if_pos h))]
      have es : playN s o = delN s o.a := by
        rcases h23 with h | h
        · exact (if_neg h1).trans (if_pos h)
        · exact (if_neg h1).trans ((if_neg (by omega)).trans (if_pos h))
      have main : Wp (k238 true h6) Q := by
        rw [e238]
        refine Wp.lettG fun k240 e240 => Wp.ift rfl (Wp.obind (RowH.cell' ob g1) (Wp.obind (avInt_int _ _) (Wp.lett (Wp.lettG fun j155 e155 => ?_))))
        cases hf' : fnd s.ls o.a with
        | none =>
          have he : (playT s o).e = 4 := by
            rw [ee]
            unfold delR
            rw [hf']
          have hps : playN s o = s := by
            rw [es]
            unfold delN
            rw [hf']
          have j164f : ∀ j164 : Bool → AHeap → R, (j164 = fun (t164 : Bool) (h_249 : AHeap) =>
                  Abs.obind (ldCell h_249 (AV.ptr h4.next 5)) fun v166 =>
                  Abs.obind (avInt .i64 v166) fun t166 =>
                  lett ((t166 : Int) == 0) fun (t167 : Bool) =>
                  lett (!((t167 : Bool) == t164)) fun (t169 : Bool) =>
                  ifB t169
                  (
                    some (.ret (.bool false), h_249))
                  (
                    lett (fun  (h_261 : AHeap) =>
                      k240 h_261) fun k260 =>
                    ifB t164
                    (
                      Abs.obind (ldCell h_249 (AV.ptr H.next 1)) fun v173 =>
                      Abs.obind (avInt .i64 v173) fun t173 =>
                      lett (IntKind.i64.wrap (t173 - 1)) fun (t174 : Int) =>
                      Abs.obind (idxP 1 gv t174) fun t175 =>
                      Abs.obind (stRow h_249 1 [.bool true] t175) fun h_267 =>
                      lett (fun (t189 : Bool) (h_271 : AHeap) =>
                        ifB t189
                        (
                          some (.ret (.bool false), h_271))
                        (
                          k260 h_271)) fun k270 =>
                      Abs.obind (ldCell h_267 (AV.ptr H.next 0)) fun v177 =>
                      Abs.obind (avInt .i64 v177) fun t177 =>
                      lett ((t177 : Int) == 2) fun (t178 : Bool) =>
                      ifB t178
                      (
                        Abs.obind (ldRow h_267 4 (AV.ptr h4.next 1)) fun t181 =>
                        Abs.obind (ldCell h_267 (AV.ptr H.next 1)) fun v184 =>
                        Abs.obind (avInt .i64 v184) fun t184 =>
                        lett (IntKind.i64.wrap (t184 - 1)) fun (t185 : Int) =>
                        Abs.obind (idxP 4 sv t185) fun t186 =>
                        Abs.obind (ldRow h_267 4 t186) fun t187 =>
                        Abs.obind (eqOther Try.prog TLet (.agg t181) (.agg t187)) fun t188 =>
                        lett (!t188) fun (t188_283 : Bool) =>
                        k270 t188_283 h_267)
                      (
                        k270 false h_267))
                    (
                      k260 h_249))) → Wp (j164 false h6) Q := fun j164 e164 => by
            rw [e164]
            refine Wp.obind (RowH.cell' tb c5) (Wp.obind (avInt_int _ _) (Wp.lett (Wp.lett ?_)))
            rw [he]
            refine Wp.iff rfl (Wp.lettG fun k260 e260 => Wp.iff rfl ?_)
            rw [e260, e240, e168]
            exact next h6 _ sv gv sent gone CM W6 (by rw [hps]; exact I) (Big.of (Tch.refl _ _)) (by rw [hps]; omega)
          by_cases ha : o.a ≥ 1
          · refine Wp.ift (decide_eq_true ha) (Wp.obind (RowH.cell' ob g1) (Wp.obind (avInt_int _ _) (Wp.obind lenS (Wp.lett ?_))))
            by_cases hb : o.a ≤ (sent.length : Int)
            · rw [decide_eq_true hb, e155]
              refine Wp.lettG fun j164 e164 => Wp.ift rfl (Wp.obind (RowH.cell' ob g1) (Wp.obind (avInt_int _ _) (Wp.lettw (by omega) (by omega) ?_)))
              obtain ⟨j, hj⟩ : ∃ j : Nat, o.a = (j : Int) + 1 := ⟨(o.a - 1).toNat, by omega⟩
              have hjl : j < sent.length := by omega
              have hjg : j < gone.length := by omega
              have hg1 : gone[j] = true := by
                cases hgj : gone[j] with
                | true => rfl
                | false =>
                  obtain ⟨k, hk⟩ := I.alive (List.getElem?_eq_getElem hjl) (by rw [List.getElem?_eq_getElem hjg, hgj])
                  rw [← hj, hf'] at hk
                  cases hk
              obtain ⟨pg, ig, rg⟩ := W6.G.at (List.getElem?_eq_getElem hjg)
              rw [hg1] at rg
              rw [show o.a - 1 = (j : Int) by omega]
              refine Wp.obind ig (Wp.obind rg (Wp.obind (avBool_bool _) (Wp.lett ?_)))
              exact j164f j164 e164
            · rw [decide_eq_false hb, e155]
              refine Wp.lettG fun j164 e164 => Wp.iff rfl ?_
              exact j164f j164 e164
          · refine Wp.iff (decide_eq_false ha) ?_
            rw [e155]
            refine Wp.lettG fun j164 e164 => Wp.iff rfl ?_
            exact j164f j164 e164
        | some k =>
          obtain ⟨j, l, hz, hj1, hj2, hkl, hlive⟩ := I.fnd hf'
          obtain ⟨hjl, hjl2⟩ := List.getElem?_eq_some_iff.1 hj1
          have hjg : j < gone.length := by omega
          have hgd : s.ls.getD k zeroL = l := by rw [List.getD_eq_getElem?_getD, hkl]; rfl
          have he : (playT s o).e = 0 := by
            rw [ee]
            unfold delR
            rw [hf']
          have hps : playN s o = ⟨s.ls.eraseIdx k, s.last, s.cuts⟩ := by
            rw [es]
            unfold delN
            rw [hf']
          obtain ⟨pg, ig, rg⟩ := W6.G.at hj2
          have hz1 : o.a - 1 = (j : Int) := by omega
          refine Wp.ift (decide_eq_true (by omega)) (Wp.obind (RowH.cell' ob g1) (Wp.obind (avInt_int _ _) (Wp.obind lenS (Wp.lett ?_))))
          rw [decide_eq_true (show o.a ≤ (sent.length : Int) by omega), e155]
          refine Wp.lettG fun j164 e164 => Wp.ift rfl (Wp.obind (RowH.cell' ob g1) (Wp.obind (avInt_int _ _) (Wp.lettw (by omega) (by omega) ?_)))
          rw [hz1]
          refine Wp.obind ig (Wp.obind rg (Wp.obind (avBool_bool _) (Wp.lett ?_)))
          rw [e164]
          refine Wp.obind (RowH.cell' tb c5) (Wp.obind (avInt_int _ _) (Wp.lett (Wp.lett ?_)))
          rw [he]
          refine Wp.iff rfl (Wp.lettG fun k260 e260 => Wp.ift rfl (Wp.obind (RowH.cell' ob g1) (Wp.obind (avInt_int _ _) (Wp.lettw (by omega) (by omega) ?_))))
          rw [hz1]
          have fin : ∀ H7, BAt H7 gv (gone.set j true) → Tch (blkV gv) h6 H7 → Wp (k260 H7) Q := fun H7 G7 t7 => by
            have W7 := W6.setG t7 G7 (fun b hb => .inr hb)
            rw [e260, e240, e168]
            refine next H7 _ sv gv sent (gone.set j true) CM W7 ?_ ⟨_, t7, fun b hb => (W6.nG b hb).2⟩ ?_
            · rw [hps]
              exact I.del hlive
            · rw [hps]
              show s.last ≤ i + 1
              omega
          obtain ⟨pg', ig', hst⟩ := W6.G.set (i := j) hjg (Q := Q) (K := fun h_267 => lett (fun (t189 : Bool) (h_271 : AHeap) =>
                        ifB t189
                        (
                          some (.ret (.bool false), h_271))
                        (
                          k260 h_271)) fun k270 =>
                      Abs.obind (ldCell h_267 (AV.ptr H.next 0)) fun v177 =>
                      Abs.obind (avInt .i64 v177) fun t177 =>
                      lett ((t177 : Int) == 2) fun (t178 : Bool) =>
                      ifB t178
                      (
                        Abs.obind (ldRow h_267 4 (AV.ptr h4.next 1)) fun t181 =>
                        Abs.obind (ldCell h_267 (AV.ptr H.next 1)) fun v184 =>
                        Abs.obind (avInt .i64 v184) fun t184 =>
                        lett (IntKind.i64.wrap (t184 - 1)) fun (t185 : Int) =>
                        Abs.obind (idxP 4 sv t185) fun t186 =>
                        Abs.obind (ldRow h_267 4 t186) fun t187 =>
                        Abs.obind (eqOther Try.prog TLet (.agg t181) (.agg t187)) fun t188 =>
                        lett (!t188) fun (t188_283 : Bool) =>
                        k270 t188_283 h_267)
                      (
                        k270 false h_267)) (fun H7 G7 t7 n7 => by
            have ob7 : RowH H7 H.next TOp (opC o) := ob.tch t7 (Nat.lt_of_lt_of_le lt3 (Nat.le_trans n4 t6.1)) (fun hm => by
              have := W.G.lt _ hm
              omega)
            have tb7 : RowH H7 h4.next TTold (tdC (playT s o)) := tb.tch t7 M6.at0.2.1 (fun hm => by
              have := W4.G.lt _ hm
              omega)
            refine Wp.lettG fun k270 e270 => Wp.obind (RowH.cell' ob7 g0) (Wp.obind (avInt_int _ _) (Wp.lett ?_))
            have fin2 : Wp (k270 false H7) Q := by
              rw [e270]
              exact Wp.iff rfl (fin H7 G7 t7)
            by_cases h2' : o.k = 2
            · have hT : (playT s o).l = l := by
                rw [show playT s o = ⟨0, (delR s o.a).1, (delR s o.a).2⟩ from (if_neg h1).trans (if_pos h2')]
                show (delR s o.a).1 = l
                unfold delR
                rw [hf']
                exact hgd
              have hrow : ldRow H7 4 (.ptr h4.next 1) = some (letC (playT s o).l) := by
                rw [tb7.ld (by show 1 + 4 ≤ 6; decide)]
                rfl
              have W7 := W6.setG t7 G7 (fun b hb => .inr hb)
              obtain ⟨ps, is_, rs⟩ := W7.S.row hjl
              rw [hjl2] at rs
              refine Wp.ift (beq_t h2') (Wp.obind hrow (Wp.obind (RowH.cell' ob7 g1) (Wp.obind (avInt_int _ _) (Wp.lettw (by omega) (by omega) ?_))))
              rw [hz1, hT]
              refine Wp.obind is_ (Wp.obind rs (Wp.obind (eqLet _ _) (Wp.lett ?_)))
              rw [decide_eq_true rfl]
              exact fin2
            · exact Wp.iff (beq_f h2') fin2)
          exact Wp.obind ig' hst
      rcases h23 with h | h
      · exact Wp.ift (beq_t h) main
      · refine Wp.iff (beq_f (by omega)) (Wp.lett ?_)
        rw [beq_t h]
        exact main
    have k238f : Wp (k238 false h6) Q := by
      rw [e238]
      refine Wp.lettG fun k240 e240 => Wp.iff rfl (Wp.lett (Wp.lettG fun k299 e299 => ?_))
      by_cases h56 : o.k = 5 ∨ o.k = 6
      · have et : playT s o = ⟨0, zeroL, refN o.a o.b⟩ := (if_neg h1).trans ((if_neg (fun h => h23 (.inl h))).trans ((if_neg (fun h => h23 (.inr h))).trans ((if_neg h4').trans (if_pos h56))))
        have ee : (playT s o).e = refN o.a o.b := by rw [et]
        have main : Wp (k299 true h6) Q := by
          rw [e299]
          refine Wp.lettG fun k301 e301 => Wp.ift rfl (Wp.obind (RowH.cell' tb c5) (Wp.obind (avInt_int _ _) (Wp.lett (Wp.lettG fun k307 e307 => ?_))))
          by_cases he : refN o.a o.b = 0
          · have hr : addr o.a ∧ addr o.b ∧ o.a ≠ o.b := by
              unfold refN at he
              split at he
              · assumption
              · cases he
            obtain ⟨ha, hb, hab⟩ := hr
            obtain ⟨A, hA, hA16⟩ : ∃ A : Nat, o.a = (A : Int) ∧ A < 16 := ⟨o.a.toNat, by have := ha.1; omega, by have := ha.2; omega⟩
            obtain ⟨B, hB, hB16⟩ : ∃ B : Nat, o.b = (B : Int) ∧ B < 16 := ⟨o.b.toNat, by have := hb.1; omega, by have := hb.2; omega⟩
            have q1 : idxA 16 16 (.ptr h16.next 0) o.a = some (.ptr cb (0 + A * 16)) := by rw [hA, hcb]; exact idxM1 hA16
            have q2 : idxA 16 1 (.ptr cb (0 + A * 16)) o.b = some (.ptr cb (0 + A * 16 + B * 1)) := by rw [hB]; exact idxM2 hB16
            have q3 : idxA 16 16 (.ptr h16.next 0) o.b = some (.ptr cb (0 + B * 16)) := by rw [hB, hcb]; exact idxM1 hB16
            have q4 : idxA 16 1 (.ptr cb (0 + B * 16)) o.a = some (.ptr cb (0 + B * 16 + A * 1)) := by rw [hA]; exact idxM2 hA16
            refine Wp.ift (beq_t (by omega)) (Wp.obind (RowH.cell' ob g1) (Wp.obind (avInt_int _ _) (Wp.lett (Wp.lettG fun j203 e203 => Wp.iff (by rw [decide_eq_false_iff_not]; omega) ?_))))
            refine Wp.obind (RowH.cell' ob g1) (Wp.obind (avInt_int _ _) (Wp.lett ?_))
            rw [decide_eq_false (show ¬ o.a > 15 by omega), e203]
            refine Wp.lettG fun j208 e208 => Wp.iff rfl (Wp.obind (RowH.cell' ob g2) (Wp.obind (avInt_int _ _) (Wp.lett ?_)))
            rw [decide_eq_false (show ¬ o.b < 0 by omega), e208]
            refine Wp.lettG fun j213 e213 => Wp.iff rfl (Wp.obind (RowH.cell' ob g2) (Wp.obind (avInt_int _ _) (Wp.lett ?_)))
            rw [decide_eq_false (show ¬ o.b > 15 by omega), e213]
            refine Wp.lettG fun j220 e220 => Wp.iff rfl (Wp.obind (RowH.cell' ob g1) (Wp.obind (avInt_int _ _) (Wp.obind (RowH.cell' ob g2) (Wp.obind (avInt_int _ _) (Wp.lett ?_)))))
            rw [show (o.a == o.b) = false from beq_f hab, e220]
            refine Wp.iff rfl (Wp.obind (RowH.cell' ob g1) (Wp.obind (avInt_int _ _) (Wp.obind (RowH.cell' ob g2) (Wp.obind (avInt_int _ _) (Wp.obind (RowH.cell' ob g0) (Wp.obind (avInt_int _ _) (Wp.lett (Wp.obind q1 (Wp.obind q2 ?_)))))))))
            have hmat := I.mat
            refine Wp.st1 W6.C (show 0 + A * 16 + B * 1 < CM.length by omega) rfl fun h7 k7 t7 n7 => ?_
            rw [Nat.zero_add, Nat.mul_one] at k7
            have W7 := W6.setC t7 k7
            have lt6 := M6.at0.2.1
            have hcbH : cb < H.next := W.hC
            have ob7 : RowH h7 H.next TOp (opC o) := ob.tch t7 (Nat.lt_of_lt_of_le lt3 (Nat.le_trans n4 t6.1)) (fun hm => by
              have := List.mem_singleton.1 hm
              omega)
            refine Wp.obind (RowH.cell' ob7 g2) (Wp.obind (avInt_int _ _) (Wp.obind (RowH.cell' ob7 g1) (Wp.obind (avInt_int _ _) (Wp.obind (RowH.cell' ob7 g0) (Wp.obind (avInt_int _ _) (Wp.lett (Wp.obind q3 (Wp.obind q4 ?_))))))))
            refine Wp.st1 k7 (show 0 + B * 16 + A * 1 < _ by rw [List.length_set]; omega) rfl fun h8 k8 t8 n8 => ?_
            rw [Nat.zero_add, Nat.mul_one] at k8
            have W8 := W7.setC t8 k8
            rw [e307, e301, e240, e168]
            have hAB : A ≠ B := fun e => hab (by rw [hA, hB, e])
            have hBig : Big N h6 h8 := ⟨[cb], t7.trans t8, fun b hb => by rw [List.mem_singleton.1 hb]; exact W.nC.2⟩
            by_cases h5' : o.k = 5
            · have es : playN s o = ⟨s.ls, s.last, putL (lnk o.a o.b) s.cuts⟩ := (if_neg h1).trans ((if_neg (fun h => h23 (.inl h))).trans ((if_neg (fun h => h23 (.inr h))).trans ((if_neg h4').trans ((if_pos h5').trans (if_pos he)))))
              have ek : (o.k == 5) = true := beq_t h5'
              rw [ek] at W8
              refine next h8 _ sv gv sent gone _ W8 ?_ hBig (by rw [es]; show s.last ≤ i + 1; omega)
              rw [es, hA, hB]
              refine I.links hA16 hB16 hAB _ true (putL_nodup I.nd) fun q => ?_
              rw [putL_mem]
              by_cases hq : q = lnk (A : Int) (B : Int)
              · rw [if_pos hq]
                exact ⟨fun _ => rfl, fun _ => .inl hq⟩
              · rw [if_neg hq]
                exact ⟨fun h => h.resolve_left hq, .inr⟩
            · have h6' : o.k = 6 := h56.resolve_left h5'
              have es : playN s o = ⟨s.ls, s.last, delL (lnk o.a o.b) s.cuts⟩ := (if_neg h1).trans ((if_neg (fun h => h23 (.inl h))).trans ((if_neg (fun h => h23 (.inr h))).trans ((if_neg h4').trans ((if_neg h5').trans ((if_pos h6').trans (if_pos he))))))
              have ek : (o.k == 5) = false := beq_f h5'
              rw [ek] at W8
              refine next h8 _ sv gv sent gone _ W8 ?_ hBig (by rw [es]; show s.last ≤ i + 1; omega)
              rw [es, hA, hB]
              refine I.links hA16 hB16 hAB _ false (I.nd.sublist (delL_sub _)) fun q => ?_
              rw [delL_mem I.nd]
              by_cases hq : q = lnk (A : Int) (B : Int)
              · rw [if_pos hq]
                exact ⟨fun h => absurd hq h.1, fun h => nomatch h⟩
              · rw [if_neg hq]
                exact ⟨fun h => h.2, fun h => ⟨hq, h⟩⟩
          · refine Wp.iff (beq_f (by omega)) ?_
            rw [e307, e301, e240, e168]
            have es : playN s o = s := by
              rcases h56 with h | h
              · exact (if_neg h1).trans ((if_neg (fun h => h23 (.inl h))).trans ((if_neg (fun h => h23 (.inr h))).trans ((if_neg h4').trans ((if_pos h).trans (if_neg he)))))
              · exact (if_neg h1).trans ((if_neg (fun h => h23 (.inl h))).trans ((if_neg (fun h => h23 (.inr h))).trans ((if_neg h4').trans ((if_neg (by omega)).trans ((if_pos h).trans (if_neg he))))))
            exact next h6 _ sv gv sent gone CM W6 (by rw [es]; exact I) (Big.of (Tch.refl _ _)) (by rw [es]; omega)
        rcases h56 with h | h
        · exact Wp.ift (beq_t h) main
        · refine Wp.iff (beq_f (by omega)) (Wp.lett ?_)
          rw [beq_t h]
          exact main
      · have es : playN s o = s := (if_neg h1).trans ((if_neg (fun h => h23 (.inl h))).trans ((if_neg (fun h => h23 (.inr h))).trans ((if_neg h4').trans ((if_neg (fun h => h56 (.inl h))).trans (if_neg (fun h => h56 (.inr h)))))))
        refine Wp.iff (beq_f (fun h => h56 (.inl h))) (Wp.lett ?_)
        rw [beq_f (fun h => h56 (.inr h)), e299]
        refine Wp.lettG fun k301 e301 => Wp.iff rfl ?_
        rw [e301, e240, e168]
        exact next h6 _ sv gv sent gone CM W6 (by rw [es]; exact I) (Big.of (Tch.refl _ _)) (by rw [es]; omega)
    refine Wp.iff (beq_f (fun h => h23 (.inl h))) (Wp.lett ?_)
    rw [beq_f (fun h => h23 (.inr h))]
    exact k238f
/-- the letters that are left -/
theorem left_loop {h : AHeap} {gs : List Bool} (S : LAt h sv sent) (G : BAt h gv gs) (hx : h.ex = []) (hgl : gs.length = sent.length) (hl : sent.length ≤ 400) {k32 : AV → AHeap → R}
    (hk : ∀ H v, Tch [] h H → LAt H v (live sent gs) → Wp (k32 v H) Q) :
    ∀ (r i fu : Nat) (H : AHeap) (v : AV) (acc : List Lt), r + i = sent.length → r < fu → Tch [] h H → LAt H v acc → (∀ b ∈ blkV v, h.next ≤ b) → acc ++ live (sent.drop i) (gs.drop i) = live sent gs → acc.length ≤ i → Wp (law05_NetOnce_L0 sv gv k32 fu v (i : Int) H) Q
  | _, _, 0, _, _, _, _, hf, _, _, _, _, _ => by omega
  | 0, i, fu + 1, H, v, acc, hi, _, t, k, hb, he, _ => by
    rw [law05_NetOnce_L0_s]
    unfold law05_NetOnce_L0b
    refine Wp.obind S.len (Wp.lett (Wp.iff (by rw [decide_eq_false_iff_not]; omega) ?_))
    rw [List.drop_of_length_le (by omega), List.drop_of_length_le (by omega)] at he
    have he : acc ++ [] = live sent gs := he
    rw [List.append_nil] at he
    exact hk H v t (by rw [← he]; exact k)
  | r + 1, i, fu + 1, H, v, acc, hi, hf, t, k, hb, he, ha => by
    have hil : i < sent.length := by omega
    have hig : i < gs.length := by omega
    have SH := S.tch t (fun _ _ h => nomatch h)
    have GH := G.tch t (fun _ _ h => nomatch h)
    obtain ⟨pg, ig, rg⟩ := GH.at (List.getElem?_eq_getElem hig)
    obtain ⟨ps, is_, rs⟩ := SH.row hil
    rw [List.drop_eq_getElem_cons hil, List.drop_eq_getElem_cons hig] at he
    have he : acc ++ (if gs[i] = true then live (sent.drop (i + 1)) (gs.drop (i + 1)) else sent[i] :: live (sent.drop (i + 1)) (gs.drop (i + 1))) = live sent gs := he
    rw [law05_NetOnce_L0_s]
    unfold law05_NetOnce_L0b
    refine Wp.obind S.len (Wp.lett (Wp.ift (by rw [decide_eq_true_eq]; omega) (Wp.obind ig (Wp.obind rg (Wp.obind (avBool_bool _) (Wp.lett (Wp.lettG fun k54 e54 => ?_)))))))
    cases hg : gs[i] with
    | true =>
      rw [hg, if_pos rfl] at he
      refine Wp.iff rfl ?_
      rw [e54]
      refine Wp.lettw (by omega) (by omega) ?_
      rw [show (i : Int) + 1 = ((i + 1 : Nat) : Int) by omega]
      exact left_loop S G hx hgl hl hk r (i + 1) fu H v acc (by omega) (by omega) t k hb he (by omega)
    | false =>
      rw [hg, if_neg (by decide)] at he
      have hxH : H.ex = [] := by rw [t.2.1, hx]
      refine Wp.ift rfl (Wp.obind is_ (Wp.obind rs (Wp.mnews (Mem.nil [] H) (bldLt _ _ _ _ _) rfl (by rw [hxH]; rfl) fun h2 M2 => ?_)))
      have t2 := M2.tch
      have n2 := t2.1
      have nH := t.1
      obtain ⟨h3, e3, k3, t3, lt3⟩ := (k.tch t2 (fun _ _ h => nomatch h)).push (l := sent[i]) M2.at0.1 (by omega) (by rw [t2.2.1, hxH])
      refine Wp.outK e3 ?_
      rw [e54]
      refine Wp.lettw (by omega) (by omega) ?_
      rw [show (i : Int) + 1 = ((i + 1 : Nat) : Int) by omega]
      refine left_loop S G hx hgl hl hk r (i + 1) fu h3 _ (acc ++ [sent[i]]) (by omega) (by omega) ((t.trans t2).trans' t3 fun b hbb => .inr (hb b hbb)) k3 (fun b hbb => ?_) (by rw [List.append_assoc]; exact he) (by rw [List.length_append, List.length_singleton]; omega)
      have := List.mem_singleton.1 hbb
      omega
end
set_option maxRecDepth 100000 in
/-- the law -/
theorem netOnce_says (h : AHeap) (hX : h.ex = []) (xs : List AV) (hP : ArgsP Try.prog h.next h 12 [22] xs) : ∃ h', Says Try.prog 5 xs h (.ret (.bool true)) h' := by
  obtain ⟨a, _, rfl, hp0, hP⟩ := args_cons hP
  obtain rfl := args0 hP
  obtain ⟨l, hs, hok, hl⟩ := ops_of hp0
  have hrb : reachBytes = 140737488351232 := rfl
  obtain ⟨n, hn⟩ : ∃ n, 140737488351232 < n := ⟨140737488351233, Nat.lt_succ_self _⟩
  suffices hK : Wp (law05_NetOnce (world n 9) n a h) fun r _ => r = .ret (.bool true) by
    obtain ⟨_, h', e, rfl⟩ := hK
    exact ⟨h', law05_NetOnce_ok (world_ok n 9) e⟩
  unfold law05_NetOnce
  obtain ⟨h2, e2, t2⟩ := works_w (n := n) (d := 0) (by omega) hX
  have hs2 := hs.tch t2 (Nat.le_refl _) (fun _ h => nomatch h)
  have n2 := t2.1
  obtain ⟨b, e3, hb⟩ := great_w (n := n) (d := 8) hs2 (fun x hx => (hok x hx).2.2.2) hl (by omega)
  refine Wp.callN e2 (Wp.obind (avBool_bool _) (Wp.lett (Wp.iff rfl (Wp.callN e3 (Wp.obind (avBool_bool _) ?_)))))
  cases b with
  | true => exact Wp.ift rfl (Wp.ret rfl)
  | false =>
    obtain ⟨_, hb2⟩ := hb rfl
    have hx2 : h2.ex = [] := by rw [t2.2.1, hX]
    obtain ⟨h3, e4, K3, t3⟩ := new_ok (n := n) (d := 8) hx2
    have n3 := t3.1
    have nbl : h2.next + 1 < h3.next := K3.lt
    refine Wp.iff rfl (Wp.callN e4 (Wp.lettG fun h4 e5 => ?_))
    have ec : ∃ L : List AV, L = List.replicate 256 (.bool false) ∧ h4 = Abs.newH h3 TMat L := ⟨_, rfl, by rw [e5]; kernel_rfl⟩
    obtain ⟨L, hL, rfl⟩ := ec
    clear e5
    have t4 : Tch [] h3 (Abs.newH h3 TMat L) := Tch.newH _ _ _ _
    have lt4 := lt_newH h3 TMat L
    have K4 := K3.part t4 (fun _ h => nomatch h)
    have hs4 := (hs2.tch t3 n2 (fun _ h => nomatch h)).tch t4 (Nat.le_trans n2 n3) (fun _ h => nomatch h)
    refine Wp.lettG fun k26 e26 => ?_
    have W : OM h.next (shr (fun b => h2.next ≤ b) h3.next (Abs.newH h3 TMat L).next) (Abs.newH h3 TMat L) (h2.next + 1) newN h3.next .nsl .nsl [] [] L := ⟨K4, fun b hb => Nat.le_trans n2 hb.1, .inl ⟨rfl, rfl⟩, (fun _ hb => (nomatch hb)), .inl ⟨rfl, rfl⟩, (fun _ hb => (nomatch hb)), RowH.new _ _ _, ⟨fun hh => by rcases hh.2 with h | h <;> omega, Nat.le_trans n2 n3⟩, lt4, by omega⟩
    have I : Inv newN [] [] L := ⟨rfl, rfl, (fun j x hx => nomatch hx), rfl, List.nodup_nil, by rw [hL, List.length_replicate], fun a b ha hb => by
      rw [hL, List.getElem?_replicate, if_pos (by omega)]
      rfl⟩
    refine once_loop (n := n) (d := 1) (N := h.next) (xs := l) (by omega) rfl hb2 (fun H lo nb s sv gv sent gone CM W I hlast => ?_) l 0 n _ _ _ newN .nsl .nsl [] [] L (List.drop_zero) (by omega) W I hs4 (Nat.le_refl _) (Nat.zero_le _)
    rw [e26]
    have hsl := I.len
    refine Wp.lettG fun k32 e32 => ?_
    refine left_loop W.S W.G W.K.ex I.glen (by omega) (fun H' v t k => ?_) sent.length 0 n H .nsl [] (Nat.add_zero _) (by omega) (Tch.refl _ _) (.inl ⟨rfl, rfl⟩) (fun _ hb => nomatch hb) rfl (Nat.le_refl _)
    rw [e32]
    have KH := W.K.tch t (fun _ h => nomatch h)
    obtain ⟨h8, v8, e8, k8, t8, _⟩ := flight_ok (n := n) (d := 7) KH
    have k9 := k.tch t8 (fun _ _ h => nomatch h)
    rw [← I.liv] at k9
    have hlen256 : s.ls.length ≤ 256 := by
      obtain ⟨_, _, K⟩ := KH
      exact K.len
    refine Wp.callN e8 (Wp.callN (same_w (n := n) (d := 8) (by omega) k8 k9 (by omega)) (Wp.obind (avBool_bool _) ?_))
    exact Wp.ret rfl
end Go.Proofs.Ythdkfofkghpmcaa
