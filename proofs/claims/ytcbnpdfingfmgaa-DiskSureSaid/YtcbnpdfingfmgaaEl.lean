/- DiskSure. -/
import Derived.Test.YtcbnpdfingfmgaaEk
import Derived.Test.YtcbnpdfingfmgaaLSure
namespace Go.Proofs.Ytcbnpdfingfmgaa
open Go.RowKit Abs
theorem rem2 (z : Int) : remI .i64 z 2 = some (z.tmod 2) := by
  unfold remI
  rw [if_neg (by decide)]
theorem bldInt6 (h : AHeap) (z : Int) : bldSl Try.prog h 34 6 [(0, .int .i64 9), (1, .int .i64 9), (2, .int .i64 9), (3, .int .i64 9), (4, .int .i64 9), (5, .int .i64 z)] = outNewS h 3 [.int .i64 9, .int .i64 9, .int .i64 9, .int .i64 9, .int .i64 9, .int .i64 z] 6 1 := by kernel_rfl
section
variable {n d db N : Nat} {h : AHeap} {B : Nat} {s : DS} {a : AV} {xs : List StpR} {Q : ARes → AHeap → Prop} {ah : Bytes}
theorem At.ok5 {lo : Nat → Prop} (K : At lo h db s B) : (s.fs 5).seen = doL (s.fs 5).sure (s.fs 5).loose ∧ (s.fs 5).loose.length ≤ B := by
  obtain ⟨D, vs, K⟩ := K
  obtain ⟨o1, _, _, o4⟩ := K.ok 5 (by decide)
  exact ⟨o1, o4⟩
/-- a disk, what was there, and the script that is still to be read -/
structure SW (N : Nat) (H : AHeap) (db : Nat) (s : DS) (B : Nat) (v : AV) (st : List Bytes) (ah : Bytes) (a : AV) (xs : List StpR) : Prop where
  K : ∃ lo, At lo H db s B ∧ (∀ b ∈ blkV v, ¬ lo b) ∧ ∀ b, lo b → N ≤ b
  S : SAt H v st
  I : SI s ah st
  hs : Slc N H 5 a (xs.map stpC)
  hN : N ≤ H.next
  hv : ∀ b ∈ blkV v, N ≤ b
theorem sure_loop (hn : 1000000 < n) (ho : ∀ x ∈ xs, x.v.one = true) (hl : xs.length ≤ 100) {k38 : AV → AHeap → R} (hk : ∀ s B v st H, SW N H db s B v st ah a xs → B ≤ 100000 → Wp (k38 v H) Q) :
    ∀ (todo : List StpR) (i fu : Nat) (H : AHeap) (s : DS) (B : Nat) (v : AV) (st : List Bytes), xs.drop i = todo → todo.length < fu → SW N H db s B v st ah a xs → B + sumS todo + 2 * todo.length ≤ 100000 →
      Wp (law04_DiskSure_L0 (world n (d + 3)) a (.ptr db 0) (xs.length : Int) k38 fu v (i : Int) H) Q
  | _, _, 0, _, _, _, _, _, _, hf, _, _ => by omega
  | [], i, fu + 1, H, s, B, v, st, hd, hf, W, hB => by
    have := dropN hd
    rw [law04_DiskSure_L0_s]
    unfold law04_DiskSure_L0b
    (first | (with_reducible first | refine Wp.join0 (fun _ _ => ?_) | refine Wp.join1 (fun _ _ => ?_) | refine Wp.join2 (fun _ _ => ?_)) | ((with_reducible first | refine Wp.lettw ?_ ?_ ?_ | refine Wp.lettu64 ?_ ?_ ?_ | refine Wp.lettu8 ?_ ?_ ?_ | refine Wp.lettu32 ?_ ?_ ?_); omega; omega) | (with_reducible refine Wp.lett ?_) | ((with_reducible apply Wp.obind); first | (with_reducible first | exact avInt_int _ _ | exact avBool_bool _ | exact avStr_str _ | exact nilC_ptr _ _ | exact fldP_ptr _ _ _ | exact avAgg_agg _ | exact extT_0 _ _ | exact extT_1 _ _ _ | exact extT_2 _ _ _ _ | assumption) | ((with_reducible first | apply RowH.cell' | apply RowH.ldAll); (with_reducible assumption); rfl)) | ((with_reducible refine Wp.ift ?_ ?_); first | (with_reducible first | rfl | assumption | exact Bool.not_false) | ((with_reducible first | apply decide_eq_true | apply not_df | apply bne_t | apply beq_t); omega)) | ((with_reducible refine Wp.iff ?_ ?_); first | (with_reducible first | rfl | assumption | exact Bool.not_true) | ((with_reducible first | apply decide_eq_false | apply not_dt | apply bne_f | apply beq_f); omega)) | ((with_reducible first | apply Wp.callN | apply Wp.callK); (with_reducible assumption)) | ((with_reducible apply Wp.outK); (with_reducible assumption)) | (with_reducible first | refine Wp.go0 (by assumption) ?_ | refine Wp.go1 (by assumption) ?_ | refine Wp.go2 (by assumption) ?_) | rw [newP_eq])
    refine Wp.iff (by rw [decide_eq_false_iff_not]; omega) ?_
    exact hk s B v st H W (by omega)
  | c :: todo, i, fu + 1, H, s, B, v, st, hd, hf, W, hB => by
    obtain ⟨⟨lo, K, hlv, hlo⟩, hS, hI, hs, hN, hv⟩ := W
    obtain ⟨hi, hci, hd2⟩ := dropC hd
    rw [List.length_cons] at hf hB
    obtain ⟨b, hb, e1, e2⟩ := hs.row (i := i) (by rw [List.length_map]; exact hi)
    rw [List.getElem_map, hci] at e2
    have hv1 := ho c (hci ▸ List.getElem_mem hi)
    have hss : sumS (c :: todo) = c.s.length + sumS todo := rfl
    rw [law04_DiskSure_L0_s]
    unfold law04_DiskSure_L0b
    (first | (with_reducible first | refine Wp.join0 (fun _ _ => ?_) | refine Wp.join1 (fun _ _ => ?_) | refine Wp.join2 (fun _ _ => ?_)) | ((with_reducible first | refine Wp.lettw ?_ ?_ ?_ | refine Wp.lettu64 ?_ ?_ ?_ | refine Wp.lettu8 ?_ ?_ ?_ | refine Wp.lettu32 ?_ ?_ ?_); omega; omega) | (with_reducible refine Wp.lett ?_) | ((with_reducible apply Wp.obind); first | (with_reducible first | exact avInt_int _ _ | exact avBool_bool _ | exact avStr_str _ | exact nilC_ptr _ _ | exact fldP_ptr _ _ _ | exact avAgg_agg _ | exact extT_0 _ _ | exact extT_1 _ _ _ | exact extT_2 _ _ _ _ | assumption) | ((with_reducible first | apply RowH.cell' | apply RowH.ldAll); (with_reducible assumption); rfl)) | ((with_reducible refine Wp.ift ?_ ?_); first | (with_reducible first | rfl | assumption | exact Bool.not_false) | ((with_reducible first | apply decide_eq_true | apply not_df | apply bne_t | apply beq_t); omega)) | ((with_reducible refine Wp.iff ?_ ?_); first | (with_reducible first | rfl | assumption | exact Bool.not_true) | ((with_reducible first | apply decide_eq_false | apply not_dt | apply bne_f | apply beq_f); omega)) | ((with_reducible first | apply Wp.callN | apply Wp.callK); (with_reducible assumption)) | ((with_reducible apply Wp.outK); (with_reducible assumption)) | (with_reducible first | refine Wp.go0 (by assumption) ?_ | refine Wp.go1 (by assumption) ?_ | refine Wp.go2 (by assumption) ?_) | rw [newP_eq])
    refine Wp.ift (by rw [decide_eq_true_eq]; omega) ?_
    refine Wp.lettG fun k128 e128 => ?_
    refine Wp.obind e1 (Wp.obind e2 ?_)
    refine Wp.mnew (Mem.nil [] H) fun h2 M2 => ?_
    rw [newP_eq]
    refine Wp.sa0 M2 rfl rfl (stp_one hv1) fun h3 M3 => ?_
    have t3 := M3.tch
    have hn3 := t3.1
    have K3 := K.tch t3 (fun _ h => nomatch h)
    have hs3 := hs.tch t3 hN (fun b hb => nomatch hb)
    have hS3 := hS.tch t3 (fun _ _ h => nomatch h)
    refine Wp.ld0 M3 (show (stpC c)[0]? = some (.int .i64 c.k) from rfl) (Wp.obind (avInt_int _ _) (Wp.obind (rem2 _) (Wp.lett (Wp.lettG fun k146 e146 => ?_))))
    have next : ∀ (cc : Chg) (x : R), (cc.k = 0 ∨ cc.k = 1) → Does lo db h3 x (errP s 5 cc) (actD s 5 cc) (B + c.s.length + 2) → ∃ H', x = some (.ret (.int .i64 (errP s 5 cc)), H') ∧ Wp (k146 (errP s 5 cc) H') Q := by
      intro cc x hk01 hD
      obtain ⟨H', S, e, K', t, hSS⟩ := hD
      refine ⟨H', e, ?_⟩
      have hnH := t.1
      have hsH := hs3.tch t (by omega) fun b hb => hlo b (hSS b hb)
      have hSH := hS3.tch t (fun b hb hm => hlv b hb (hSS b hm))
      rw [e146]
      by_cases he : errP s 5 cc = 0
      · refine Wp.lett (Wp.iff (bne_f he) ?_)
        have hI' := hI.act K.ok5.1 he hk01
        refine Wp.callN (read_a (n := n) (d := d) (z := 5) K') (Wp.obind (extT_0 _ _) (Wp.obind (avStr_str _) (Wp.obind (extT_1 _ _ _) (Wp.obind (avInt_int _ _) ?_))))
        refine Wp.mnews (Mem.nil [] H') (bldStr1 _ _) rfl (by rw [K'.ex]; rfl) fun h5 M5 => ?_
        have t5 := M5.tch
        have hn5 := t5.1
        have hlen : st.length ≤ B + 1 := by
          have := hI.len
          have := K.ok5.2
          omega
        obtain ⟨h6, v6, e6, S6, t6, hv6, hn6⟩ := (hSH.tch t5 (fun _ _ h => nomatch h)).push M5.at0.1 (by omega) (by rw [t5.2.1, K'.ex])
        refine Wp.outK e6 ?_
        have T : Tch (blkV v) H' h6 := (t5.mono fun b hb => nomatch hb).trans t6
        have KP := K'.part T (fun b hb => .inl (hlv b hb))
        rw [e128]
        refine Wp.lettw (by omega) (by omega) ?_
        rw [show (i : Int) + 1 = ((i + 1 : Nat) : Int) by omega]
        refine sure_loop hn ho hl hk todo (i + 1) fu h6 _ _ v6 _ hd2 (by omega) ⟨⟨_, KP, fun b hb hh => ?_, fun b hb => hlo b hb.1⟩, S6, hI', hsH.tch T (by omega) (fun b hb => hv b hb), by omega, fun b hb => ?_⟩ (by omega)
        · rw [hv6] at hb
          have hb2 := List.mem_singleton.1 hb
          rcases hh.2 with h | h <;> omega
        · rw [hv6] at hb
          have hb2 := List.mem_singleton.1 hb
          omega
      · refine Wp.lett (Wp.ift (bne_t he) ?_)
        rw [e128]
        refine Wp.lettw (by omega) (by omega) ?_
        rw [show (i : Int) + 1 = ((i + 1 : Nat) : Int) by omega]
        rw [act_no he] at K'
        exact sure_loop hn ho hl hk todo (i + 1) fu H' s _ v st hd2 (by omega) ⟨⟨lo, K', hlv, hlo⟩, hSH, hI, hsH, by omega, hv⟩ (by omega)
    have g2 : (stpC c)[2]? = some (.int .i64 c.n) := rfl
    have g3 : (stpC c)[3]? = some (strA c.s) := rfl
    by_cases h0 : c.k.tmod 2 = 0
    · refine Wp.ift (beq_t h0) ?_
      obtain ⟨H', e, hw⟩ := next ⟨0, c.s, 0⟩ _ (.inl rfl) (append_ok (n := n) (d := d) (u := c.s) (z := 5) hn K3 (by omega))
      refine Wp.ld0 M3 g3 (Wp.obind (avStr_str _) (Wp.callN e (Wp.obind (avInt_int _ _) hw)))
    · refine Wp.iff (beq_f h0) ?_
      have hc := cut_ok (n := n) (d := d) (m := c.n) (z := 5) hn K3 (by omega)
      obtain ⟨H1, S1, q1, q2, q3⟩ := hc
      obtain ⟨H', e, hw⟩ := next ⟨1, [], c.n⟩ _ (.inr rfl) ⟨H1, S1, q1, q2.mono (by omega), q3⟩
      refine Wp.ld0 M3 g2 (Wp.obind (avInt_int _ _) (Wp.callN e (Wp.obind (avInt_int _ _) hw)))
end
theorem sliceS_pre (b w : Bytes) : sliceS (b ++ w) 0 (lenS b) = some b := by
  have := sliceS_nat (l := b ++ w) (a := 0) (b := b.length) (Nat.zero_le _) (by rw [List.length_append]; omega)
  rw [List.drop_zero, Nat.sub_zero, List.take_left' rfl] at this
  exact this
section
variable {n d db N : Nat} {H : AHeap} {B : Nat} {s : DS} {v a : AV} {st : List Bytes} {ah : Bytes} {xs : List StpR}
/-- behind the script: the crash, and what is there -/
theorem sure_end (hn : 1000000 < n) (W : SW N H db s B v st ah a xs) (hB : B ≤ 100000) {keep torn : Int} (ht : torn < 9223372036854775808) {m : Int} (hm : m = (keptN (s.fs 5) keep : Int)) :
    ∃ h5 h6, (∀ K : AV → AHeap → R, ∀ Q, Wp (Abs.callN (world n (d + 4) 14 [.ptr db 0, .sl H.next 0 6 1, .int .i64 torn] h5) K) Q ↔ Wp (K (.int .i64 0) h6) Q) ∧
      bldSl Try.prog H 34 6 [(0, .int .i64 9), (1, .int .i64 9), (2, .int .i64 9), (3, .int .i64 9), (4, .int .i64 9), (5, .int .i64 keep)] = some (.val (.sl H.next 0 6 1), h5) ∧
      SAt h6 v st ∧ ∃ u, world n (d + 4) 11 [.ptr db 0, .int .i64 5] h6 = some (.ret (.tup [strA u, .int .i64 0]), h6) ∧ ∃ b w, st[m.toNat]? = some b ∧ u = b ++ w ∧ (w = [] ∨ (0 < torn ∧ m + 1 < (st.length : Int) ∧ ∃ w', w' ≠ [] ∧ st[(m + 1).toNat]? = some (b ++ w ++ w'))) := by
  obtain ⟨⟨lo, K, hlv, hlo⟩, hS, hI, hs, hN, hv⟩ := W
  have hex : memB 3 H.ex = false := by rw [K.ex]; rfl
  have e5 : bldSl Try.prog H 34 6 [(0, .int .i64 9), (1, .int .i64 9), (2, .int .i64 9), (3, .int .i64 9), (4, .int .i64 9), (5, .int .i64 keep)] = some (.val (.sl H.next 0 6 1), Abs.newH H 3 [.int .i64 9, .int .i64 9, .int .i64 9, .int .i64 9, .int .i64 9, .int .i64 keep]) := by
    rw [bldInt6]
    unfold outNewS
    rw [if_pos ⟨rfl, hex⟩]
    rfl
  have t5 : Tch [] H (Abs.newH H 3 [.int .i64 9, .int .i64 9, .int .i64 9, .int .i64 9, .int .i64 9, .int .i64 keep]) := Tch.newH _ _ _ _
  have kr := RowH.new H 3 [.int .i64 9, .int .i64 9, .int .i64 9, .int .i64 9, .int .i64 9, .int .i64 keep]
  have hlt := lt_newH H 3 [.int .i64 9, .int .i64 9, .int .i64 9, .int .i64 9, .int .i64 9, .int .i64 keep]
  have KP := K.part t5 (fun b hb => nomatch hb)
  have rd : RdI (fun b => lo b ∧ (b < H.next ∨ (Abs.newH H 3 [.int .i64 9, .int .i64 9, .int .i64 9, .int .i64 9, .int .i64 9, .int .i64 keep]).next ≤ b)) (Abs.newH H 3 [.int .i64 9, .int .i64 9, .int .i64 9, .int .i64 9, .int .i64 9, .int .i64 keep]) (.sl H.next 0 6 1) [9, 9, 9, 9, 9, keep] := by
    refine ⟨rfl, fun S H' t hS' i hi => ⟨_, idx1 hi, RowH.cell' (kr.tch t hlt fun hm => ?_) ?_⟩⟩
    · rcases (hS' _ hm).2 with h | h <;> omega
    · have hi6 : i < 6 := hi
      rcases i with _ | _ | _ | _ | _ | _ | i
      · rfl
      · rfl
      · rfl
      · rfl
      · rfl
      · rfl
      · omega
  obtain ⟨h6, S6, e6, K6, t6, hS6⟩ := crash_ok (n := n) (d := d) hn (by omega) ht (by show 6 < 9223372036854775808; decide) KP rd
  refine ⟨_, h6, fun K Q => ⟨fun hw => ?_, fun hw => Wp.callN e6 hw⟩, e5, (hS.tch t5 (fun _ _ h => nomatch h)).tch t6 (fun b hb hm => hlv b hb (hS6 b hm).1), ?_⟩
  · rw [e6] at hw
    exact hw
  · obtain ⟨hth, b, w, h1, h2, h3⟩ := crash_shape hI keep torn
    have hr := read_a (n := n) (d := d + 1) (z := 5) K6
    have hk5 : keepAt [9, 9, 9, 9, 9, keep] 5 = keep := rfl
    have hf : (crashD s [9, 9, 9, 9, 9, keep] torn).fs 5 = crashF (s.fs 5) keep torn := by
      show (if 5 < 32 then crashF (s.fs 5) (keepAt [9, 9, 9, 9, 9, keep] 5) torn else s.fs 5) = _
      rw [if_pos (by decide), hk5]
    have hE : readE (crashD s [9, 9, 9, 9, 9, keep] torn) 5 = 0 := by
      unfold readE
      rw [if_pos (show refP (crashD s [9, 9, 9, 9, 9, keep] torn).p 5 = 0 from (by decide : refP (-1) 5 = 0))]
      show (if ((crashD s [9, 9, 9, 9, 9, keep] torn).fs 5).seen.th = true then (0 : Int) else 4) = 0
      rw [hf]
      exact if_pos hth
    have hSS : readS (crashD s [9, 9, 9, 9, 9, keep] torn) 5 = (crashC (s.fs 5) keep torn).u := by
      unfold readS
      rw [if_pos (show refP (crashD s [9, 9, 9, 9, 9, keep] torn).p 5 = 0 from (by decide : refP (-1) 5 = 0))]
      show (if ((crashD s [9, 9, 9, 9, 9, keep] torn).fs 5).seen.th = true then ((crashD s [9, 9, 9, 9, 9, keep] torn).fs 5).seen.u else []) = _
      rw [hf]
      exact if_pos hth
    rw [hE, hSS] at hr
    refine ⟨_, hr, b, w, by rw [hm, Int.toNat_natCast]; exact h1, h2, ?_⟩
    rcases h3 with h3 | ⟨h3, h4, h5⟩
    · exact .inl h3
    · refine .inr ⟨h3, by omega, ?_⟩
      rw [hm, show ((keptN (s.fs 5) keep : Int) + 1).toNat = keptN (s.fs 5) keep + 1 by omega]
      exact h5
end
set_option maxRecDepth 100000 in
/-- the law -/
theorem diskSure_says (h : AHeap) (hX : h.ex = []) (xs : List AV) (hP : ArgsP Try.prog h.next h 12 [9, 38, 3, 3] xs) : ∃ h', Says Try.prog 5 xs h (.ret (.bool true)) h' := by
  obtain ⟨_, _, rfl, hpa, hP⟩ := args_cons hP
  obtain ⟨a, _, rfl, hp0, hP⟩ := args_cons hP
  obtain ⟨_, _, rfl, hp1, hP⟩ := args_cons hP
  obtain ⟨_, _, rfl, hp2, hP⟩ := args_cons hP
  obtain rfl := args0 hP
  obtain ⟨ah, rfl, hah⟩ := hpa.str Try.underlying9
  obtain ⟨l, hs, hok, hl⟩ := script_of hp0
  obtain ⟨keep, rfl, hkp⟩ := hp1.int Try.underlying3
  obtain ⟨torn, rfl, htn⟩ := hp2.int Try.underlying3
  have hkp := wf_i64 hkp
  have htn := wf_i64 htn
  have hrb : reachBytes = 140737488351232 := rfl
  obtain ⟨n, hn⟩ : ∃ n, 140737488351232 < n := ⟨140737488351233, Nat.lt_succ_self _⟩
  suffices hK : Wp (law04_DiskSure (world n 4) n ah a keep torn h) fun r _ => r = .ret (.bool true) by
    obtain ⟨_, h', e, rfl⟩ := hK
    exact ⟨h', law04_DiskSure_ok (world_ok n 4) e⟩
  unfold law04_DiskSure
  refine Wp.callN (show world n 4 7 [] h = some (.ret (.bool true), h) from w_true n 3 [] h) (Wp.obind (avBool_bool _) (Wp.lett (Wp.iff rfl ?_)))
  obtain ⟨h2, b, e2, t2, hb⟩ := heavy_w (n := n) (d := 3) hs (Nat.le_refl _) (fun x hx => ⟨(hok x hx).2.2.2.1, (hok x hx).one⟩) hl (by omega)
  refine Wp.callN e2 (Wp.obind (avBool_bool _) (Wp.lettG fun j27 ej => ?_))
  have out : ∀ H, Wp (j27 true H) fun r _ => r = .ret (.bool true) := fun H => by
    rw [ej]
    exact Wp.ift rfl (Wp.ret rfl)
  cases b with
  | true => exact Wp.ift rfl (out _)
  | false =>
    obtain ⟨hb1, hb2⟩ := hb rfl
    have hla := lenS_nat ah
    refine Wp.iff rfl (Wp.lett ?_)
    by_cases h0 : lenS ah > 16384
    · rw [decide_eq_true h0]
      exact out _
    · rw [decide_eq_false h0, ej]
      refine Wp.iff rfl ?_
      have hx2 : h2.ex = [] := by rw [t2.2.1, hX]
      obtain ⟨h3, e3, K3, t3⟩ := new_ok (n := n) (d := 3) hx2
      refine Wp.callN e3 ?_
      obtain ⟨h4, S4, e4, K4, t4, hS4⟩ := append_ok (n := n) (d := 1) (u := ah) (z := 5) (by omega) K3 (by omega)
      have q0 : errP newS 5 ⟨0, ah, 0⟩ = 0 := by
        unfold errP
        rw [if_pos (show refP (-1) 5 = 0 by decide)]
        unfold ownE
        rw [if_pos rfl, if_neg (by show ¬ (1048576 : Int) - (0 : Nat) < (ah.length : Int); omega)]
      have a0 : actD newS 5 ⟨0, ah, 0⟩ = ⟨upd newS.fs 5 (moreF emptyF ⟨0, ah, 0⟩), -1, 1⟩ := by
        unfold actD
        rw [if_pos q0]
        rfl
      rw [q0] at e4
      rw [a0] at K4
      refine Wp.callN e4 (Wp.obind (avInt_int _ _) (Wp.lett (Wp.lettG fun j37 e37 => Wp.iff rfl ?_)))
      obtain ⟨h5, S5, e5, K5, t5, hS5⟩ := sync_ok (n := n) (d := 1) (z := 5) (by omega) K4 (by omega)
      have q1 : refP (-1) 5 = 0 := by decide
      have a1 : synD ⟨upd newS.fs 5 (moreF emptyF ⟨0, ah, 0⟩), -1, 1⟩ 5 = ⟨upd (upd newS.fs 5 (moreF emptyF ⟨0, ah, 0⟩)) 5 (synF (moreF emptyF ⟨0, ah, 0⟩)), -1, 2⟩ := by
        unfold synD
        rw [if_pos (show refP (-1) 5 = 0 by decide)]
        show DS.mk (upd (upd newS.fs 5 (moreF emptyF ⟨0, ah, 0⟩)) 5 (synF (upd newS.fs 5 (moreF emptyF ⟨0, ah, 0⟩) 5))) (-1) 2 = _
        rw [upd_same]
      rw [show refP (DS.mk (upd newS.fs 5 (moreF emptyF ⟨0, ah, 0⟩)) (-1) 1).p 5 = 0 from q1] at e5
      rw [a1] at K5
      refine Wp.callN e5 (Wp.obind (avInt_int _ _) (Wp.lett ?_))
      rw [e37]
      refine Wp.iff rfl ?_
      have hn2 := t2.1
      have hn3 := t3.1
      have hn4 := t4.1
      have hn5 := t5.1
      have hs2 := hs.tch t2 (Nat.le_refl _) (fun b hb => nomatch hb)
      have hs3 := hs2.tch t3 hn2 (fun b hb => nomatch hb)
      have hs4 := hs3.tch t4 (by omega) (fun b hb => Nat.le_trans hn2 (hS4 b hb))
      have hs5 := hs4.tch t5 (by omega) (fun b hb => Nat.le_trans hn2 (hS5 b hb))
      refine Wp.mnews (Mem.nil [] h5) (bldStr1 _ _) rfl (by rw [K5.ex]; rfl) fun h6 M6 => ?_
      have t6 := M6.tch
      have hn6 := t6.1
      have KP := K5.part t6 (fun b hb => nomatch hb)
      have hlen := hs.len
      rw [List.length_map] at hlen
      refine Wp.obind hlen (Wp.lettG fun k38 e38 => ?_)
      have hI : SI ⟨upd (upd newS.fs 5 (moreF emptyF ⟨0, ah, 0⟩)) 5 (synF (moreF emptyF ⟨0, ah, 0⟩)), -1, 2⟩ ah [ah] := by
        have hm : upd (upd newS.fs 5 (moreF emptyF ⟨0, ah, 0⟩)) 5 (synF (moreF emptyF ⟨0, ah, 0⟩)) 5 = synF (moreF emptyF ⟨0, ah, 0⟩) := upd_same ..
        refine ⟨rfl, ?_, ?_, ?_, ?_⟩
        · show (upd (upd newS.fs 5 (moreF emptyF ⟨0, ah, 0⟩)) 5 (synF (moreF emptyF ⟨0, ah, 0⟩)) 5).sure = _
          rw [hm]
          rfl
        · show ∀ c ∈ (upd (upd newS.fs 5 (moreF emptyF ⟨0, ah, 0⟩)) 5 (synF (moreF emptyF ⟨0, ah, 0⟩)) 5).loose, _
          rw [hm]
          exact fun c hc => nomatch hc
        · show [ah].length = (upd (upd newS.fs 5 (moreF emptyF ⟨0, ah, 0⟩)) 5 (synF (moreF emptyF ⟨0, ah, 0⟩)) 5).loose.length + 1
          rw [hm]
          rfl
        · show ∀ j, j ≤ (upd (upd newS.fs 5 (moreF emptyF ⟨0, ah, 0⟩)) 5 (synF (moreF emptyF ⟨0, ah, 0⟩)) 5).loose.length → [ah][j]? = some (doL (upd (upd newS.fs 5 (moreF emptyF ⟨0, ah, 0⟩)) 5 (synF (moreF emptyF ⟨0, ah, 0⟩)) 5).sure ((upd (upd newS.fs 5 (moreF emptyF ⟨0, ah, 0⟩)) 5 (synF (moreF emptyF ⟨0, ah, 0⟩)) 5).loose.take j)).u
          rw [hm]
          intro j hj
          obtain rfl : j = 0 := Nat.le_zero.1 hj
          rfl
      refine sure_loop (n := n) (d := 1) (db := h2.next) (N := h.next) (xs := l) (ah := ah) (by omega) (fun x hx => (hok x hx).one) hb2 (fun s B v st H W hB => ?_) l 0 n h6 _ _ _ [ah] (List.drop_zero) (by omega) ⟨⟨_, KP, fun b hb hh => ?_, fun b hb => Nat.le_trans hn2 hb.1⟩, ⟨h5.next, rfl, M6.at0.1, M6.at0.2.1⟩, hI, hs5.tch t6 (by omega) (fun b hb => nomatch hb), by omega, fun b hb => ?_⟩ (by omega)
      · obtain ⟨⟨lo, K, hlv, hlo⟩, hS, hI, _⟩ := id W
        have hsl := hI.len
        have hll := hS.len
        have hl5 := K.ok5.2
        rw [e38]
        have hmm : (if (st.length : Int) - 1 < (if 0 > keep then 0 else keep) then (st.length : Int) - 1 else (if 0 > keep then 0 else keep)) = (keptN (s.fs 5) keep : Int) := by
          unfold keptN
          split <;> split at * <;> omega
        have hkl : keptN (s.fs 5) keep ≤ (s.fs 5).loose.length := Nat.min_le_right _ _
        refine Wp.lett (Wp.obind hll (Wp.lettw (by omega) (by omega) ?_))
        rw [hmm]
        obtain ⟨m, hm⟩ : ∃ m : Int, m = (keptN (s.fs 5) keep : Int) := ⟨_, rfl⟩
        rw [← hm]
        have hlo5 := loose_a (n := n) (d := 2) (z := 5) K
        rw [if_pos (show isF 5 by decide), show (5 : Int).toNat = 5 from rfl] at hlo5
        refine Wp.lett (Wp.callN hlo5 (Wp.obind (avInt_int _ _) (Wp.obind hll (Wp.lettw (by omega) (by omega) (Wp.lett (Wp.lettG fun j89 e89 => ?_))))))
        refine Wp.iff (bne_f (by omega)) ?_
        obtain ⟨g5, g6, hcall, hbld, S6, u, hread, bb, w, hb1, hu, hw⟩ := sure_end (n := n) (d := 0) (torn := torn) (keep := keep) (by omega) W hB htn.2 hm
        refine Wp.outK hbld ((hcall _ _).2 (Wp.obind (avInt_int _ _) (Wp.lett ?_)))
        rw [e89]
        refine Wp.iff rfl (Wp.callN hread (Wp.obind (extT_0 _ _) (Wp.obind (avStr_str _) (Wp.obind (extT_1 _ _ _) (Wp.obind (avInt_int _ _) (Wp.lettG fun k66 e66 => Wp.lett (Wp.iff rfl ?_)))))))
        obtain ⟨p1, i1, c1⟩ := S6.at hb1
        rw [show ((m.toNat : Nat) : Int) = m by omega] at i1
        have hlu := lenS_nat u
        have hlb := lenS_nat bb
        have hul : u.length = bb.length + w.length := by rw [hu, List.length_append]
        have hsl0 := sliceS_pre bb w
        rw [← hu] at hsl0
        refine Wp.obind i1 (Wp.obind c1 (Wp.obind (avStr_str _) (Wp.lett (Wp.iff (by rw [decide_eq_false_iff_not]; omega) ?_))))
        refine Wp.obind i1 (Wp.obind c1 (Wp.obind (avStr_str _) (Wp.obind hsl0 (Wp.obind i1 (Wp.obind c1 (Wp.obind (avStr_str _) (Wp.lett ?_)))))))
        rw [eqS_true.2 (rfl : bb = bb), e66]
        refine Wp.iff rfl (Wp.obind i1 (Wp.obind c1 (Wp.obind (avStr_str _) (Wp.lett ?_))))
        rcases hw with rfl | ⟨hw1, hw2, w', hw3, hw4⟩
        · refine Wp.ift (beq_t (by rw [List.length_nil] at hul; omega)) (Wp.ret rfl)
        · obtain ⟨p2, i2, c2⟩ := S6.at hw4
          rw [show (((m + 1).toNat : Nat) : Int) = m + 1 by omega] at i2
          by_cases h9 : u.length = bb.length
          · exact Wp.ift (beq_t (by omega)) (Wp.ret rfl)
          · refine Wp.iff (beq_f (by omega)) (Wp.lett (Wp.lettG fun j137 e137 => Wp.ift (decide_eq_true hw1) (Wp.lettw (by omega) (by omega) (Wp.obind S6.len (Wp.lett ?_)))))
            rw [decide_eq_true hw2, e137]
            rw [← hu] at hw4 c2
            have hlx := lenS_nat (u ++ w')
            have hxl : (u ++ w').length = u.length + w'.length := List.length_append ..
            have hw'l : 0 < w'.length := List.length_pos_iff.2 hw3
            refine Wp.lettG fun j148 e148 => Wp.ift rfl (Wp.lettw (by omega) (by omega) (Wp.obind i2 (Wp.obind c2 (Wp.obind (avStr_str _) (Wp.lett ?_)))))
            rw [decide_eq_true (show lenS u < lenS (u ++ w') by omega), e148]
            refine Wp.lettG fun j160 e160 => Wp.ift rfl (Wp.lettw (by omega) (by omega) (Wp.obind i2 (Wp.obind c2 (Wp.obind (avStr_str _) (Wp.obind (sliceS_pre u w') (Wp.lett ?_))))))
            rw [eqS_true.2 (rfl : u = u), e160]
            exact Wp.ret rfl
      · have hb2 := List.mem_singleton.1 hb
        have := M6.at0.2.1
        rcases hh.2 with h | h <;> omega
      · have hb2 := List.mem_singleton.1 hb
        omega
end Go.Proofs.Ytcbnpdfingfmgaa
