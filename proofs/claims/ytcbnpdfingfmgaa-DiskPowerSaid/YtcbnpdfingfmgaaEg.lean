/- DiskPower. -/
import Derived.Test.YtcbnpdfingfmgaaEf
import Derived.Test.YtcbnpdfingfmgaaLPower
namespace Go.Proofs.Ytcbnpdfingfmgaa
open Go.RowKit Abs
/-- what a step leaves of power and count -/
structure StepF (s : DS) (e : Int) (s' : DS) : Prop where
  off : e = 40 ↔ s.p = 0
  no : e ≠ 0 → s'.p = s.p ∧ s'.ops = s.ops
  yes : e = 0 → s'.p = stepP s.p ∧ s'.ops = s.ops + 1
theorem own_not (x : FileS) (c : Chg) : ownE x c ≠ 40 := by
  unfold ownE
  split
  · split <;> omega
  · split
    · omega
    · split <;> omega
theorem ref_off (p z : Int) : refP p z = 40 ↔ p = 0 := by
  unfold refP
  split
  · exact ⟨fun _ => by assumption, fun _ => rfl⟩
  · split <;> constructor <;> intro <;> omega
theorem act_facts (s : DS) (z : Int) (c : Chg) : StepF s (errP s z c) (actD s z c) := by
  have h1 := own_not (s.fs z.toNat) c
  have h2 := ref_off s.p z
  refine ⟨?_, fun h => ?_, fun h => ?_⟩
  · unfold errP
    split
    · constructor
      · intro h
        exact absurd h h1
      · intro h
        have := h2.2 h
        omega
    · exact h2
  · rw [act_no h]
    exact ⟨rfl, rfl⟩
  · unfold actD
    rw [if_pos h]
    exact ⟨rfl, rfl⟩
theorem syn_facts (s : DS) (z : Int) : StepF s (refP s.p z) (synD s z) := by
  refine ⟨ref_off s.p z, fun h => ?_, fun h => ?_⟩
  · unfold synD
    rw [if_neg h]
    exact ⟨rfl, rfl⟩
  · unfold synD
    rw [if_pos h]
    exact ⟨rfl, rfl⟩
section
variable {lo : Nat → Prop} {n d db N : Nat} {h : AHeap} {B : Nat} {s : DS} {a : AV} {xs : List StpR} {Q : ARes → AHeap → Prop}
theorem on_a (K : At lo h db s B) : world n (d + 1) 18 [.ptr db 0] h = some (.ret (.bool (decide (s.p ≠ 0))), h) := by
  obtain ⟨D, vs, K⟩ := K
  exact on_w K
theorem ops_a (K : At lo h db s B) : world n (d + 1) 19 [.ptr db 0] h = some (.ret (.int .i64 (s.ops : Int)), h) := by
  obtain ⟨D, vs, K⟩ := K
  exact ops_w K
theorem At.ho (K : At lo h db s B) : s.ops ≤ B := by
  obtain ⟨D, vs, K⟩ := K
  exact K.ho
theorem rem4 (z : Int) : remI .i64 z 4 = some (z.tmod 4) := by
  unfold remI
  rw [if_neg (by decide)]
theorem power_loop (hn : 1000000 < n) (hlo : ∀ b, lo b → N ≤ b) (ho : ∀ x ∈ xs, x.v.one = true) (hl : xs.length ≤ 100) {m : Nat} {k30 : Int → AHeap → R} (hk : ∀ (t : Nat) H, t ≤ m → Wp (k30 (t : Int) H) Q) :
    ∀ (todo : List StpR) (i fu t : Nat) (H : AHeap) (s : DS) (B : Nat), xs.drop i = todo → todo.length < fu → At lo H db s B → Slc N H 5 a (xs.map stpC) → N ≤ H.next → s.p = (m : Int) - (t : Int) → s.ops = t → t ≤ m → B + sumS todo + 2 * todo.length ≤ 20000 →
      Wp (law04_DiskPower_L0 (world n (d + 3)) a (m : Int) (.ptr db 0) (xs.length : Int) k30 fu (t : Int) (i : Int) H) Q
  | _, _, 0, _, _, _, _, _, hf, _, _, _, _, _, _, _ => by omega
  | [], i, fu + 1, t, H, s, B, hd, hf, K, hs, hN, hp, ho2, ht, hB => by
    have := dropN hd
    rw [law04_DiskPower_L0_s]
    unfold law04_DiskPower_L0b
    (first | (with_reducible first | refine Wp.join0 (fun _ _ => ?_) | refine Wp.join1 (fun _ _ => ?_) | refine Wp.join2 (fun _ _ => ?_)) | ((with_reducible first | refine Wp.lettw ?_ ?_ ?_ | refine Wp.lettu64 ?_ ?_ ?_ | refine Wp.lettu8 ?_ ?_ ?_ | refine Wp.lettu32 ?_ ?_ ?_); omega; omega) | (with_reducible refine Wp.lett ?_) | ((with_reducible apply Wp.obind); first | (with_reducible first | exact avInt_int _ _ | exact avBool_bool _ | exact avStr_str _ | exact nilC_ptr _ _ | exact fldP_ptr _ _ _ | exact avAgg_agg _ | exact extT_0 _ _ | exact extT_1 _ _ _ | exact extT_2 _ _ _ _ | assumption) | ((with_reducible first | apply RowH.cell' | apply RowH.ldAll); (with_reducible assumption); rfl)) | ((with_reducible refine Wp.ift ?_ ?_); first | (with_reducible first | rfl | assumption | exact Bool.not_false) | ((with_reducible first | apply decide_eq_true | apply not_df | apply bne_t | apply beq_t); omega)) | ((with_reducible refine Wp.iff ?_ ?_); first | (with_reducible first | rfl | assumption | exact Bool.not_true) | ((with_reducible first | apply decide_eq_false | apply not_dt | apply bne_f | apply beq_f); omega)) | ((with_reducible first | apply Wp.callN | apply Wp.callK); (with_reducible assumption)) | ((with_reducible apply Wp.outK); (with_reducible assumption)) | (with_reducible first | refine Wp.go0 (by assumption) ?_ | refine Wp.go1 (by assumption) ?_ | refine Wp.go2 (by assumption) ?_) | rw [newP_eq])
    refine Wp.iff (by rw [decide_eq_false_iff_not]; omega) ?_
    exact hk t H ht
  | c :: todo, i, fu + 1, t, H, s, B, hd, hf, K, hs, hN, hp, ho2, ht, hB => by
    obtain ⟨hi, hci, hd2⟩ := dropC hd
    rw [List.length_cons] at hf hB
    obtain ⟨b, hb, e1, e2⟩ := hs.row (i := i) (by rw [List.length_map]; exact hi)
    rw [List.getElem_map, hci] at e2
    have hv1 := ho c (hci ▸ List.getElem_mem hi)
    have hss : sumS (c :: todo) = c.s.length + sumS todo := rfl
    have hho := K.ho
    rw [law04_DiskPower_L0_s]
    unfold law04_DiskPower_L0b
    (first | (with_reducible first | refine Wp.join0 (fun _ _ => ?_) | refine Wp.join1 (fun _ _ => ?_) | refine Wp.join2 (fun _ _ => ?_)) | ((with_reducible first | refine Wp.lettw ?_ ?_ ?_ | refine Wp.lettu64 ?_ ?_ ?_ | refine Wp.lettu8 ?_ ?_ ?_ | refine Wp.lettu32 ?_ ?_ ?_); omega; omega) | (with_reducible refine Wp.lett ?_) | ((with_reducible apply Wp.obind); first | (with_reducible first | exact avInt_int _ _ | exact avBool_bool _ | exact avStr_str _ | exact nilC_ptr _ _ | exact fldP_ptr _ _ _ | exact avAgg_agg _ | exact extT_0 _ _ | exact extT_1 _ _ _ | exact extT_2 _ _ _ _ | assumption) | ((with_reducible first | apply RowH.cell' | apply RowH.ldAll); (with_reducible assumption); rfl)) | ((with_reducible refine Wp.ift ?_ ?_); first | (with_reducible first | rfl | assumption | exact Bool.not_false) | ((with_reducible first | apply decide_eq_true | apply not_df | apply bne_t | apply beq_t); omega)) | ((with_reducible refine Wp.iff ?_ ?_); first | (with_reducible first | rfl | assumption | exact Bool.not_true) | ((with_reducible first | apply decide_eq_false | apply not_dt | apply bne_f | apply beq_f); omega)) | ((with_reducible first | apply Wp.callN | apply Wp.callK); (with_reducible assumption)) | ((with_reducible apply Wp.outK); (with_reducible assumption)) | (with_reducible first | refine Wp.go0 (by assumption) ?_ | refine Wp.go1 (by assumption) ?_ | refine Wp.go2 (by assumption) ?_) | rw [newP_eq])
    refine Wp.ift (by rw [decide_eq_true_eq]; omega) ?_
    refine Wp.obind e1 (Wp.obind e2 ?_)
    refine Wp.mnew (Mem.nil [] H) fun h2 M2 => ?_
    rw [newP_eq]
    refine Wp.sa0 M2 rfl rfl (stp_one hv1) fun h3 M3 => ?_
    have t3 := M3.tch
    have hn3 := t3.1
    have K3 := K.tch t3 (fun _ h => nomatch h)
    have hs3 := hs.tch t3 hN (fun b hb => nomatch hb)
    refine Wp.callN (on_a K3) (Wp.obind (avBool_bool _) ?_)
    refine Wp.ld0 M3 (show (stpC c)[0]? = some (.int .i64 c.k) from rfl) (Wp.obind (avInt_int _ _) (Wp.obind (rem4 _) (Wp.lett (Wp.lettG fun k62 ek => ?_))))
    have next : ∀ (e : Int) (s' : DS) (H' : AHeap), At lo H' db s' (B + c.s.length + 2) → Slc N H' 5 a (xs.map stpC) → N ≤ H'.next → StepF s e s' → Wp (k62 e H') Q := by
      intro e s' H' K' hs' hN' F
      have ih := fun (t' : Nat) => power_loop hn hlo ho hl hk todo (i + 1) fu t' H' s' (B + c.s.length + 2) hd2 (by omega) K' hs' hN'
      have e5 := on_a (n := n) (d := d + 2) K'
      have e6 := ops_a (n := n) (d := d + 2) K'
      have hstep : stepP s.p = if 0 < s.p then s.p - 1 else s.p := rfl
      rw [ek]
      by_cases h0 : s.p = 0
      · have he := F.off.2 h0
        obtain ⟨f1, f2⟩ := F.no (by omega)
        rw [decide_eq_false (show ¬ s.p ≠ 0 from fun h => h h0)]
        rw [decide_eq_false (show ¬ s'.p ≠ 0 from fun h => h (f1.trans h0))] at e5
        have q1 : decide ((t : Int) < (m : Int)) = false := decide_eq_false (by omega)
        rw [he]
        refine Wp.lett (Wp.lettG fun k67 e67 => Wp.iff rfl ?_)
        rw [e67]
        refine Wp.lett (Wp.lettG fun j71 e71 => Wp.iff q1 (Wp.lett ?_))
        rw [e71]
        refine Wp.lett (Wp.lettG fun j78 e78 => Wp.iff rfl (Wp.lett (Wp.lett ?_)))
        rw [e78]
        refine Wp.lettG fun j84 e84 => Wp.iff rfl (Wp.callN e6 (Wp.obind (avInt_int _ _) (Wp.lett ?_)))
        rw [show ((s'.ops : Int) != (t : Int)) = false from bne_f (by omega), e84]
        refine Wp.lettG fun j92 e92 => Wp.iff rfl (Wp.callN e5 (Wp.obind (avBool_bool _) (Wp.lett (Wp.lett ?_))))
        rw [e92]
        refine Wp.iff (by rw [q1]; rfl) (Wp.lettw (by omega) (by omega) ?_)
        exact ih t (by omega) (by omega) ht (by omega)
      · rw [decide_eq_true (show s.p ≠ 0 from h0)]
        have hlt : (t : Int) < (m : Int) := by omega
        have hne40 : e ≠ 40 := fun h => h0 (F.off.1 h)
        have fin : ∀ t' : Nat, s'.p = (m : Int) - (t' : Int) → s'.ops = t' → t' ≤ m → (decide ((t' : Int) < (m : Int)) = true ∨ e = 0) → ∀ k67 : Int → AHeap → R, (k67 = fun (t6_68 : Int) (h_69 : AHeap) =>
        lett (decide (t6_68 < (m : Int))) fun (t67 : Bool) =>
        lett (fun (t71 : Bool) (h_72 : AHeap) =>
          lett (!(true == t71)) fun (t72 : Bool) =>
          lett (fun (t78 : Bool) (h_76 : AHeap) =>
            lett (fun (t84 : Bool) (h_79 : AHeap) =>
              lett (fun (t92 : Bool) (h_82 : AHeap) =>
                ifB t92
                (
                  some (.ret (.bool false), h_82))
                (
                  lett (IntKind.i64.wrap ((i : Int) + 1)) fun (t93 : Int) =>
                  law04_DiskPower_L0 (world n (d + 3)) a (m : Int) (.ptr db 0) (xs.length : Int) k30 fu t6_68 t93 h_82)) fun j92 =>
              ifB t84
              (
                j92 true h_79)
              (
                Abs.callN (world n (d + 3) 18 [.ptr db 0] h_79) fun r87 h_87 =>
                Abs.obind (avBool r87) fun t87 =>
                lett (decide (t6_68 < (m : Int))) fun (t90 : Bool) =>
                lett (!((t87 : Bool) == t90)) fun (t91 : Bool) =>
                j92 t91 h_87)) fun j84 =>
            ifB t78
            (
              j84 true h_76)
            (
              Abs.callN (world n (d + 3) 19 [.ptr db 0] h_76) fun r81 h_92 =>
              Abs.obind (avInt .i64 r81) fun t81 =>
              lett ((t81 : Int) != t6_68) fun (t83 : Bool) =>
              j84 t83 h_92)) fun j78 =>
          ifB t72
          (
            j78 true h_72)
          (
            lett ((e : Int) == 40) fun (t76 : Bool) =>
            lett (true == t76) fun (t77 : Bool) =>
            j78 t77 h_72)) fun j71 =>
        ifB t67
        (
          j71 true h_69)
        (
          lett ((e : Int) == 0) fun (t70 : Bool) =>
          j71 t70 h_69)) → Wp (k67 (t' : Int) H') Q := by
          intro t' hp' hops' ht' hor k67 e67
          have q2 : decide (s'.p ≠ 0) = decide ((t' : Int) < (m : Int)) := decide_eq_decide.2 (by omega)
          rw [q2] at e5
          rw [e67]
          refine Wp.lett (Wp.lettG fun j71 e71 => ?_)
          have g : Wp (j71 true H') Q := by
            rw [e71]
            refine Wp.lett (Wp.lettG fun j78 e78 => Wp.iff rfl (Wp.lett (Wp.lett ?_)))
            rw [show (e == 40) = false from beq_f hne40, e78]
            refine Wp.lettG fun j84 e84 => Wp.iff rfl (Wp.callN e6 (Wp.obind (avInt_int _ _) (Wp.lett ?_)))
            rw [show ((s'.ops : Int) != (t' : Int)) = false from bne_f (by omega), e84]
            refine Wp.lettG fun j92 e92 => Wp.iff rfl (Wp.callN e5 (Wp.obind (avBool_bool _) (Wp.lett (Wp.lett ?_))))
            rw [e92, show (!(decide ((t' : Int) < (m : Int)) == decide ((t' : Int) < (m : Int)))) = false by simp]
            refine Wp.iff rfl (Wp.lettw (by omega) (by omega) ?_)
            exact ih t' hp' hops' ht' (by omega)
          by_cases h1 : decide ((t' : Int) < (m : Int)) = true
          · exact Wp.ift h1 g
          · have he0 : e = 0 := hor.resolve_left h1
            refine Wp.iff (by simpa using h1) (Wp.lett ?_)
            rw [show (e == 0) = true from beq_t he0]
            exact g
        by_cases he : e = 0
        · obtain ⟨f1, f2⟩ := F.yes he
          rw [hstep, if_pos (by omega)] at f1
          refine Wp.lett (Wp.lettG fun k67 e67 => Wp.ift (beq_t he) (Wp.lettw (by omega) (by omega) ?_))
          exact fin (t + 1) (by omega) (by omega) (by omega) (.inr he) k67 e67
        · obtain ⟨f1, f2⟩ := F.no he
          refine Wp.lett (Wp.lettG fun k67 e67 => Wp.iff (beq_f he) ?_)
          exact fin t (by omega) (by omega) ht (.inl (decide_eq_true hlt)) k67 e67
    have wf : ∀ {x : R} {e : Int} {s' : DS} {B' : Nat}, Does lo db h3 x e s' B' → B' ≤ B + c.s.length + 2 → ∃ H', x = some (.ret (.int .i64 e), H') ∧ At lo H' db s' (B + c.s.length + 2) ∧ Slc N H' 5 a (xs.map stpC) ∧ N ≤ H'.next := by
      intro x e s' B' hD hBB
      obtain ⟨H', S, e, K', t, hS⟩ := hD
      have := t.1
      exact ⟨H', e, K'.mono hBB, hs3.tch t (by omega) fun b hb => hlo b (hS b hb), by omega⟩
    have g1 : (stpC c)[1]? = some (.int .i64 c.f) := rfl
    have g2 : (stpC c)[2]? = some (.int .i64 c.n) := rfl
    have g3 : (stpC c)[3]? = some (strA c.s) := rfl
    by_cases h0 : c.k.tmod 4 = 0
    · refine Wp.ift (beq_t h0) ?_
      obtain ⟨H', e, K', hs', hN'⟩ := wf (append_ok (n := n) (d := d) (u := c.s) (z := c.f) hn K3 (by omega)) (Nat.le_refl _)
      refine Wp.ld0 M3 g1 (Wp.obind (avInt_int _ _) (Wp.ld0 M3 g3 (Wp.obind (avStr_str _) (Wp.callN e (Wp.obind (avInt_int _ _) ?_)))))
      exact next _ _ H' K' hs' hN' (act_facts _ _ _)
    · refine Wp.iff (beq_f h0) (Wp.lett (Wp.lettG fun k109 e109 => ?_))
      by_cases h1 : c.k.tmod 4 = 1
      · refine Wp.ift (beq_t h1) ?_
        obtain ⟨H', e, K', hs', hN'⟩ := wf (cut_ok (n := n) (d := d) (m := c.n) (z := c.f) hn K3 (by omega)) (by omega)
        refine Wp.ld0 M3 g1 (Wp.obind (avInt_int _ _) (Wp.ld0 M3 g2 (Wp.obind (avInt_int _ _) (Wp.callN e (Wp.obind (avInt_int _ _) ?_)))))
        rw [e109]
        exact next _ _ H' K' hs' hN' (act_facts _ _ _)
      · refine Wp.iff (beq_f h1) (Wp.lett (Wp.lettG fun k121 e121 => ?_))
        by_cases h2 : c.k.tmod 4 = 2
        · refine Wp.ift (beq_t h2) ?_
          obtain ⟨H', e, K', hs', hN'⟩ := wf (remove_ok (n := n) (d := d) (z := c.f) hn K3 (by omega)) (by omega)
          refine Wp.ld0 M3 g1 (Wp.obind (avInt_int _ _) (Wp.callN e (Wp.obind (avInt_int _ _) ?_)))
          rw [e121, e109]
          exact next _ _ H' K' hs' hN' (act_facts _ _ _)
        · refine Wp.iff (beq_f h2) ?_
          obtain ⟨H', e, K', hs', hN'⟩ := wf (sync_ok (n := n) (d := d) (z := c.f) hn K3 (by omega)) (by omega)
          refine Wp.ld0 M3 g1 (Wp.obind (avInt_int _ _) (Wp.callN e (Wp.obind (avInt_int _ _) ?_)))
          rw [e121, e109]
          exact next _ _ H' K' hs' hN' (syn_facts _ _)
end
set_option maxRecDepth 100000 in
/-- the law -/
theorem diskPower_says (h : AHeap) (hX : h.ex = []) (xs : List AV) (hP : ArgsP Try.prog h.next h 12 [38, 3] xs) : ∃ h', Says Try.prog 6 xs h (.ret (.bool true)) h' := by
  obtain ⟨a, _, rfl, hp0, hP⟩ := args_cons hP
  obtain ⟨_, _, rfl, hp1, hP⟩ := args_cons hP
  obtain rfl := args0 hP
  obtain ⟨l, hs, hok, hl⟩ := script_of hp0
  obtain ⟨m, rfl, hm⟩ := hp1.int Try.underlying3
  have hm := wf_i64 hm
  have hrb : reachBytes = 140737488351232 := rfl
  obtain ⟨n, hn⟩ : ∃ n, 140737488351232 < n := ⟨140737488351233, Nat.lt_succ_self _⟩
  suffices hK : Wp (law04_DiskPower (world n 4) n a m h) fun r _ => r = .ret (.bool true) by
    obtain ⟨_, h', e, rfl⟩ := hK
    exact ⟨h', law04_DiskPower_ok (world_ok n 4) e⟩
  unfold law04_DiskPower
  refine Wp.callN (show world n 4 7 [] h = some (.ret (.bool true), h) from w_true n 3 [] h) (Wp.obind (avBool_bool _) (Wp.lett (Wp.iff rfl ?_)))
  obtain ⟨h2, b, e2, t2, hb⟩ := heavy_w (n := n) (d := 3) hs (Nat.le_refl _) (fun x hx => ⟨(hok x hx).2.2.2.1, (hok x hx).one⟩) hl (by omega)
  refine Wp.callN e2 (Wp.obind (avBool_bool _) (Wp.lettG fun j18 ej => ?_))
  have out : ∀ H, Wp (j18 true H) fun r _ => r = .ret (.bool true) := fun H => by
    rw [ej]
    exact Wp.ift rfl (Wp.ret rfl)
  cases b with
  | true => exact Wp.ift rfl (out _)
  | false =>
    obtain ⟨hb1, hb2⟩ := hb rfl
    refine Wp.iff rfl (Wp.lett ?_)
    by_cases h0 : m < 0
    · rw [decide_eq_true h0]
      exact out _
    · rw [decide_eq_false h0, ej]
      refine Wp.iff rfl ?_
      obtain ⟨M, rfl⟩ : ∃ M : Nat, m = (M : Int) := ⟨m.toNat, by omega⟩
      have hx2 : h2.ex = [] := by rw [t2.2.1, hX]
      obtain ⟨h3, e3, K3, t3⟩ := new_ok (n := n) (d := 3) hx2
      refine Wp.callN e3 ?_
      obtain ⟨h4, S, e4, K4, t4, hS⟩ := power_ok (n := n) (d := 3) (m := (M : Int)) hm.2 K3
      refine Wp.callN e4 (Wp.obind (avInt_int _ _) ?_)
      have hlen := hs.len
      rw [List.length_map] at hlen
      refine Wp.obind hlen (Wp.lettG fun k30 e30 => ?_)
      have hn2 := t2.1
      have hn3 := t3.1
      have hn4 := t4.1
      have hs2 := hs.tch t2 (Nat.le_refl _) (fun b hb => nomatch hb)
      have hs3 := hs2.tch t3 hn2 (fun b hb => nomatch hb)
      have hs4 := hs3.tch t4 (by omega) (fun b hb => Nat.le_trans hn2 (hS b hb))
      rw [if_neg (by omega)] at K4
      refine power_loop (n := n) (d := 1) (N := h.next) (xs := l) (m := M) (by omega) (fun b hb => Nat.le_trans hn2 hb) (fun x hx => (hok x hx).one) hb2 (fun t H ht => ?_) l 0 n 0 h4 _ 0 (List.drop_zero) (by omega) K4 hs4 (by omega) (by show (M : Int) = (M : Int) - 0; omega) rfl (Nat.zero_le _) (by omega)
      rw [e30]
      refine Wp.lett (Wp.ret ?_)
      rw [decide_eq_true (show (t : Int) ≤ (M : Int) by omega)]
end Go.Proofs.Ytcbnpdfingfmgaa
