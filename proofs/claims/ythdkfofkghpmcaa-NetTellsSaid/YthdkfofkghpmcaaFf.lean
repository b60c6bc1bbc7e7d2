/- Nets: what the laws ask ahead; letters compared; what is alive. -/
import Derived.Test.YthdkfofkghpmcaaFe
namespace Go.Proofs.Ythdkfofkghpmcaa
open Go.RowKit Abs
theorem eqLet (x y : Lt) : eqOther Try.prog TLet (.agg (letC x)) (.agg (letC y)) = some (decide (x = y)) := by
  have hf : flatB Try.prog TLet [1, 1, 1, 2] = true := by kernel_rfl
  have he : eqL [1, 1, 1, 2] (letC x) (letC y) = some ((x.id == y.id) && ((x.a == y.a) && ((x.b == y.b) && ((x.s == y.s) && true)))) := eqL_cons rfl (eqCell_int _ _ _) (eqL_cons rfl (eqCell_int _ _ _) (eqL_cons rfl (eqCell_int _ _ _) (eqL_cons rfl (eqCell_str _ _) rfl)))
  have hb : ((x.id == y.id) && ((x.a == y.a) && ((x.b == y.b) && ((x.s == y.s) && true)))) = decide (x = y) := by
    obtain ⟨a, b, c, d⟩ := x
    obtain ⟨e, f, g, i⟩ := y
    by_cases h1 : a = e
    · by_cases h2 : b = f
      · by_cases h3 : c = g
        · by_cases h4 : d = i
          · simp [h1, h2, h3, h4]
          · simp [h4]
        · simp [h3]
      · simp [h2]
    · simp [h1]
  rw [hb] at he
  exact eq_flat hf he
section
variable {lo : Nat → Prop} {n d nb N : Nat} {h : AHeap} {v w a : AV} {ls : List Lt} {xs : List Opr} {Q : ARes → AHeap → Prop}
theorem same_loop (k1 : LAt h v ls) (k2 : LAt h w ls) (hl : ls.length < 1000000) {k11 : AHeap → R} (hk : Wp (k11 h) Q) : ∀ (r i fu : Nat), r + i = ls.length → r < fu → Wp (ref05_Same_L0 v w k11 fu (i : Int) h) Q
  | _, _, 0, _, hf => by omega
  | 0, i, fu + 1, hi, _ => by
    rw [ref05_Same_L0_s]
    unfold ref05_Same_L0b
    exact Wp.obind k1.len (Wp.lett (Wp.iff (by rw [decide_eq_false_iff_not]; omega) hk))
  | r + 1, i, fu + 1, hi, hf => by
    have hil : i < ls.length := by omega
    obtain ⟨p1, a1, a2⟩ := k1.row hil
    obtain ⟨p2, b1, b2⟩ := k2.row hil
    rw [ref05_Same_L0_s]
    unfold ref05_Same_L0b
    refine Wp.obind k1.len (Wp.lett (Wp.ift (by rw [decide_eq_true_eq]; omega) (Wp.obind a1 (Wp.obind a2 (Wp.obind b1 (Wp.obind b2 (Wp.obind (eqLet _ _) (Wp.lett ?_))))))))
    rw [decide_eq_true rfl]
    refine Wp.iff rfl (Wp.lettw (by omega) (by omega) ?_)
    rw [show (i : Int) + 1 = ((i + 1 : Nat) : Int) by omega]
    exact same_loop k1 k2 hl hk r (i + 1) fu (by omega) (by omega)
theorem same_w (hn : 1000000 < n) (k1 : LAt h v ls) (k2 : LAt h w ls) (hl : ls.length < 1000000) : world n (d + 1) 14 [v, w] h = some (.ret (.bool true), h) := by
  apply Wp.eq
  rw [w_ref05_Same]
  unfold ref05_Same
  refine Wp.obind k1.len (Wp.obind k2.len (Wp.lett (Wp.iff (bne_f rfl) (Wp.lettG fun k11 e11 => ?_))))
  refine same_loop k1 k2 hl ?_ ls.length 0 n (Nat.add_zero _) (by omega)
  rw [e11]
  exact Wp.ret ⟨rfl, rfl⟩
/-! ### a script -/
def sumO : List Opr → Nat
  | [] => 0
  | c :: l => 1 + c.s.length + sumO l
def OprOk (x : Opr) : Prop := I64 x.k ∧ I64 x.a ∧ I64 x.b ∧ x.s.length ≤ reachBytes
theorem opr_of {N m : Nat} {h : AHeap} {l : List AV} (hp : Plain Try.prog N h (m + 3) TOp l) : ∃ x : Opr, l = opC x ∧ OprOk x := by
  obtain ⟨ls, rfl, hlen, hf⟩ := hp.structEach Try.underlying39
  obtain ⟨l0, l1, l2, l3, rfl⟩ : ∃ l0 l1 l2 l3, ls = [l0, l1, l2, l3] := by
    match ls, hlen with
    | [a, b, c, d], _ => exact ⟨a, b, c, d, rfl⟩
  obtain ⟨z0, rfl, w0⟩ := (hf 0 _ _ rfl rfl).int Try.underlying3
  obtain ⟨z1, rfl, w1⟩ := (hf 1 _ _ rfl rfl).int Try.underlying3
  obtain ⟨z2, rfl, w2⟩ := (hf 2 _ _ rfl rfl).int Try.underlying3
  obtain ⟨u, rfl, w3⟩ := (hf 3 _ _ rfl rfl).str Try.underlying9
  exact ⟨⟨z0, z1, z2, u⟩, rfl, wf_i64 w0, wf_i64 w1, wf_i64 w2, w3⟩
theorem ops_of {N m : Nat} {h : AHeap} {a : AV} (hp : ArgP Try.prog N h (m + 4) 22 a) : ∃ xs : List Opr, Slc N h 4 a (xs.map opC) ∧ (∀ x ∈ xs, OprOk x) ∧ xs.length ≤ reachBytes := by
  obtain ⟨ls, h1, h2, h3⟩ := hp.slice Try.underlying22
  obtain ⟨xs, rfl, h4⟩ := map_of (f := opC) (Q := OprOk) ls fun l hl => opr_of (h3 l hl)
  have hc : Try.prog.cellsOf TOp = 4 := by kernel_rfl
  have hb : Try.prog.bytesOf TOp = 40 := by kernel_rfl
  rw [hc] at h1
  rw [hb, List.length_map] at h2
  exact ⟨xs, h1, h4, by omega⟩
theorem op_row (hs : Slc N h 4 a (xs.map opC)) {i : Nat} (hi : i < xs.length) : ∃ b, idxP 4 a (i : Int) = some (.ptr b (i * 4)) ∧ ldRow h 4 (.ptr b (i * 4)) = some (opC xs[i]) ∧ ldCell h (.ptr b (i * 4 + 3)) = some (strA xs[i].s) := by
  have hi' : i < (xs.map opC).length := by rw [List.length_map]; exact hi
  obtain ⟨b, _, h1, h2⟩ := hs.at hi'
  have hp := flat_part (sz := 4) (xs.map opC) i hi' (fun r hr => hs.1 r hr)
  rw [List.getElem_map] at hp
  have hl := len_same (sz := 4) (xs.map opC) (fun r hr => hs.1 r hr)
  rw [List.length_map] at hl
  have h3 := h2.part (o := i * 4) (n := 4) (by omega)
  rw [hp] at h3
  refine ⟨b, h1, h3, ?_⟩
  have h4 := h2.cell (o := i * 4 + 3) (by omega)
  have h5 : (xs.map opC).flatten[i * 4 + 3]? = some (strA xs[i].s) := by
    have e : (((xs.map opC).flatten.drop (i * 4)).take 4)[3]? = (opC xs[i])[3]? := by rw [hp]
    rw [List.getElem?_take_of_lt (by decide), List.getElem?_drop] at e
    exact e
  rw [List.getElem?_eq_getElem (by omega)] at h5
  injection h5 with h5
  rw [h4, h5]
theorem dropC {α : Type} {l : List α} {i : Nat} {a : α} {r : List α} (h : l.drop i = a :: r) : ∃ hi : i < l.length, l[i] = a ∧ l.drop (i + 1) = r := by
  have hi : i < l.length := by
    apply Nat.lt_of_not_le
    intro hh
    rw [List.drop_of_length_le hh] at h
    cases h
  rw [List.drop_eq_getElem_cons hi] at h
  injection h with h1 h2
  exact ⟨hi, h1, h2⟩
theorem dropN {α : Type} {l : List α} {i : Nat} (h : l.drop i = []) : l.length ≤ i := by
  apply Nat.le_of_not_lt
  intro hh
  rw [List.drop_eq_getElem_cons hh] at h
  cases h
theorem great_loop (hs : Slc N h 4 a (xs.map opC)) (ho : ∀ x ∈ xs, x.s.length ≤ reachBytes) (hl : xs.length ≤ reachBytes) {k6 : AHeap → R} (hk : sumO xs ≤ 65536 → Wp (k6 h) Q) (hq : Q (.ret (.bool true)) h) :
    ∀ (todo : List Opr) (i fu t : Nat), xs.drop i = todo → todo.length < fu → t ≤ 65536 → t + sumO todo = sumO xs → Wp (law05_great_L0 a k6 fu (t : Int) (i : Int) h) Q
  | _, _, 0, _, _, hf, _, _ => by omega
  | [], i, fu + 1, t, hd, _, ht, hsum => by
    have := dropN hd
    have hlen := hs.len
    rw [List.length_map] at hlen
    rw [law05_great_L0_s]
    unfold law05_great_L0b
    refine Wp.obind hlen (Wp.lett (Wp.iff (by rw [decide_eq_false_iff_not]; omega) (hk ?_)))
    have h0 : sumO [] = 0 := rfl
    omega
  | c :: todo, i, fu + 1, t, hd, hf, ht, hsum => by
    obtain ⟨hi, hci, hd2⟩ := dropC hd
    rw [List.length_cons] at hf
    have hrb : reachBytes = 140737488351232 := rfl
    obtain ⟨b, e1, _, e3⟩ := op_row hs hi
    rw [hci] at e3
    have hc := ho c (hci ▸ List.getElem_mem hi)
    have hss : sumO (c :: todo) = 1 + c.s.length + sumO todo := rfl
    have hlen := hs.len
    rw [List.length_map] at hlen
    have hlc := lenS_nat c.s
    rw [law05_great_L0_s]
    unfold law05_great_L0b
    refine Wp.obind hlen (Wp.lett (Wp.ift (by rw [decide_eq_true_eq]; omega) (Wp.obind e1 (Wp.obind (fldP_ptr _ _ _) (Wp.obind e3 (Wp.obind (avStr_str _) (Wp.lettw (by omega) (by omega) (Wp.lettw (by omega) (by omega) (Wp.lett ?_)))))))))
    by_cases h1 : (t : Int) + (1 + lenS c.s) > 65536
    · exact Wp.ift (decide_eq_true h1) (Wp.ret hq)
    · refine Wp.iff (decide_eq_false h1) (Wp.lettw (by omega) (by omega) ?_)
      rw [show (t : Int) + (1 + lenS c.s) = ((t + (1 + c.s.length) : Nat) : Int) by omega, show (i : Int) + 1 = ((i + 1 : Nat) : Int) by omega]
      exact great_loop hs ho hl hk hq todo (i + 1) fu (t + (1 + c.s.length)) hd2 (by omega) (by omega) (by omega)
theorem great_w (hs : Slc N h 4 a (xs.map opC)) (ho : ∀ x ∈ xs, x.s.length ≤ reachBytes) (hl : xs.length ≤ reachBytes) (hn : reachBytes < n) : ∃ b, world n (d + 1) 10 [a] h = some (.ret (.bool b), h) ∧ (b = false → sumO xs ≤ 65536 ∧ xs.length ≤ 400) := by
  suffices hK : Wp (world n (d + 1) 10 [a] h) fun r h' => h' = h ∧ ∃ b, r = .ret (.bool b) ∧ (b = false → sumO xs ≤ 65536 ∧ xs.length ≤ 400) by
    obtain ⟨_, h', e, rfl, b, rfl, k⟩ := hK
    exact ⟨b, e, k⟩
  rw [w_law05_great]
  unfold law05_great
  have hlen := hs.len
  rw [List.length_map] at hlen
  refine Wp.lettG fun k6 e6 => ?_
  refine great_loop hs ho hl (fun hsum => ?_) ⟨rfl, true, rfl, fun h => nomatch h⟩ xs 0 n 0 (List.drop_zero) (by omega) (by omega) (by omega)
  rw [e6]
  refine Wp.obind hlen (Wp.lett (Wp.ret ⟨rfl, _, rfl, fun hd => ⟨hsum, ?_⟩⟩))
  have := of_decide_eq_false hd
  omega
theorem eqSeq (b : Nat) (h : AHeap) : opBin Try.prog h .eql 45 true (some (.fn 30 [] [.ptr b 0])) (some AV.nfn) = some (.val (.bool false), h) := by kernel_rfl
theorem works_w (hn : 1000000 < n) (hx : h.ex = []) : ∃ h', world n (d + 9) 9 [] h = some (.ret (.bool true), h') ∧ Tch [] h h' := by
  suffices hK : Wp (law05_works (world n (d + 8)) n h) fun r h' => r = .ret (.bool true) ∧ Tch [] h h' by
    obtain ⟨r, h', e, rfl, t⟩ := hK
    rw [w_law05_works, e]
    exact ⟨h, gcR_scal t.above rfl, Tch.refl _ _⟩
  unfold law05_works
  obtain ⟨h2, e2, K2, t2⟩ := new_ok (n := n) (d := d + 7) hx
  refine Wp.callN e2 (Wp.outK (eqNet _ 0 _) (Wp.obind (avBool_bool _) (Wp.lettG fun j13 e13 => Wp.iff rfl ?_)))
  have eA : ∀ H : AHeap, H.ex = [] → ∃ H', world n (d + 8) 16 [.ptr (h.next + 1) 0] H = some (.ret (.fn 30 [] [.ptr H.next 0]), H') ∧ Tch [] H H' := fun H hH => by
    suffices hA : Wp (world n (d + 8) 16 [.ptr (h.next + 1) 0] H) fun r h' => r = .ret (.fn 30 [] [.ptr H.next 0]) ∧ Tch [] H h' by
      obtain ⟨_, h', e, rfl, t⟩ := hA
      exact ⟨h', e, t⟩
    rw [w_net_Net_All]
    unfold net_Net_All
    refine Wp.outK (v := newP H) (h1 := newH H 25 [.ptr (h.next + 1) 0]) ?_ (Wp.ret ⟨rfl, Tch.newH _ _ _ _⟩)
    show outNew H 25 [.ptr (h.next + 1) 0] = _
    unfold outNew
    rw [if_pos (show [AV.ptr (h.next + 1) 0].all AV.one = true from rfl)]
    rfl
  obtain ⟨h3, e3, t3⟩ := eA h2 K2.ex
  have K3 := K2.tch t3 (fun _ h => nomatch h)
  refine Wp.callN e3 (Wp.outK (eqSeq _ _) (Wp.obind (avBool_bool _) ?_))
  rw [e13]
  obtain ⟨h4, S4, e4, K4, t4, hS4⟩ := send_ok (n := n) (d := d + 5) K3 (by show 0 < 999999; decide) 1 2 [120]
  obtain ⟨h5, S5, e5, K5, t5, hS5⟩ := deliver_ok (n := n) (d := d + 2) hn K4 1
  have q1 : sendR newN 1 2 [120] = (1, 0) := by decide
  have q2 : sendN newN 1 2 [120] = ⟨[⟨1, 1, 2, [120]⟩], 1, []⟩ := rfl
  have q3 : delR ⟨[⟨1, 1, 2, [120]⟩], 1, []⟩ 1 = (⟨1, 1, 2, [120]⟩, 0) := by decide
  rw [q1] at e4
  rw [q2, q3] at e5
  refine Wp.iff rfl (Wp.callN e4 (Wp.obind (extT_0 _ _) (Wp.obind (avInt_int _ _) (Wp.obind (extT_1 _ _ _) (Wp.obind (avInt_int _ _) (Wp.callN e5 (Wp.obind (extT_0 _ _) (Wp.obind (avAgg_agg _) (Wp.obind (extT_1 _ _ _) (Wp.obind (avInt_int _ _) (Wp.mnew (Mem.nil [] h5) fun h6 M6 => ?_)))))))))))
  rw [newP_eq]
  refine Wp.sa0 M6 rfl rfl rfl fun h7 M7 => Wp.lett (Wp.lettG fun j29 e29 => Wp.ift rfl (Wp.lett ?_))
  have T : Tch [] h h7 := (((t2.trans t3).trans' t4 fun b hb => .inr (hS4 b hb)).trans' t5 fun b hb => .inr (hS5 b hb)).trans M7.tch
  rw [e29]
  refine Wp.lettG fun j34 e34 => Wp.ift rfl (Wp.lr0 M7 rfl (Wp.obind (show eqOther Try.prog TLet (.agg (letC ⟨1, 1, 2, [120]⟩)) (.agg (letC ⟨1, 1, 2, [120]⟩)) = some true from eqLet _ _) ?_))
  rw [e34]
  refine Wp.lettG fun j38 e38 => Wp.ift rfl (Wp.lett ?_)
  rw [e38]
  exact Wp.ret ⟨rfl, T⟩
end
/-! ### what is alive -/
def live : List Lt → List Bool → List Lt
  | x :: xs, g :: gs => if g = true then live xs gs else x :: live xs gs
  | _, _ => []
theorem live_snoc (y : Lt) : ∀ (xs : List Lt) (gs : List Bool), gs.length = xs.length → live (xs ++ [y]) (gs ++ [false]) = live xs gs ++ [y]
  | [], [], _ => rfl
  | [], _ :: _, h => by cases h
  | _ :: _, [], h => by cases h
  | x :: xs, g :: gs, h => by
    have ih := live_snoc y xs gs (Nat.succ.inj h)
    show (if g = true then live (xs ++ [y]) (gs ++ [false]) else x :: live (xs ++ [y]) (gs ++ [false])) = (if g = true then live xs gs else x :: live xs gs) ++ [y]
    rw [ih]
    split <;> rfl
theorem live_mem {l : Lt} : ∀ (xs : List Lt) (gs : List Bool), l ∈ live xs gs → ∃ i : Nat, xs[i]? = some l ∧ gs[i]? = some false
  | [], [], h => nomatch h
  | [], _ :: _, h => nomatch h
  | _ :: _, [], h => nomatch h
  | x :: xs, g :: gs, h => by
    have h : l ∈ (if g = true then live xs gs else x :: live xs gs) := h
    cases g with
    | true =>
      rw [if_pos rfl] at h
      obtain ⟨i, h1, h2⟩ := live_mem xs gs h
      exact ⟨i + 1, h1, h2⟩
    | false =>
      rw [if_neg (by decide)] at h
      rcases List.mem_cons.1 h with rfl | h
      · exact ⟨0, rfl, rfl⟩
      · obtain ⟨i, h1, h2⟩ := live_mem xs gs h
        exact ⟨i + 1, h1, h2⟩
theorem fnd_cons (x : Lt) (l : List Lt) (z : Int) : fnd (x :: l) z = if x.id = z then some 0 else (fnd l z).map (· + 1) := by
  unfold fnd
  rw [List.findIdx?_cons]
  by_cases h : x.id = z
  · rw [if_pos (decide_eq_true h), if_pos h]
  · rw [if_neg (by rw [decide_eq_true_eq]; exact h), if_neg h]
theorem live_fnd : ∀ (xs : List Lt) (gs : List Bool) (c : Int) (i : Nat) (l : Lt), (∀ (j : Nat) (x : Lt), xs[j]? = some x → x.id = c + (j : Int) + 1) → xs[i]? = some l → gs[i]? = some false → ∃ k, fnd (live xs gs) (c + (i : Int) + 1) = some k ∧ (live xs gs)[k]? = some l ∧ live xs (gs.set i true) = (live xs gs).eraseIdx k
  | [], _, _, _, _, _, h, _ => by cases h
  | _ :: _, [], _, _, _, _, _, h => by cases h
  | x :: xs, g :: gs, c, 0, l, hid, h1, h2 => by
    have e1 : x = l := by injection h1
    have e2 : g = false := by injection h2
    subst e1 e2
    have hx := hid 0 x rfl
    refine ⟨0, ?_, rfl, rfl⟩
    show fnd (x :: live xs gs) _ = _
    rw [fnd_cons, if_pos (by omega)]
  | x :: xs, g :: gs, c, i + 1, l, hid, h1, h2 => by
    have hx := hid 0 x rfl
    obtain ⟨k, f1, f2, f3⟩ := live_fnd xs gs (c + 1) i l (fun j y hy => by have := hid (j + 1) y hy; omega) h1 h2
    rw [show c + 1 + (i : Int) + 1 = c + ((i + 1 : Nat) : Int) + 1 by omega] at f1
    cases g with
    | true => exact ⟨k, f1, f2, f3⟩
    | false =>
      refine ⟨k + 1, ?_, f2, ?_⟩
      · show fnd (x :: live xs gs) _ = _
        rw [fnd_cons, if_neg (by omega), f1]
        rfl
      · show x :: live xs (gs.set i true) = (x :: live xs gs).eraseIdx (k + 1)
        rw [f3]
        rfl
end Go.Proofs.Ythdkfofkghpmcaa
