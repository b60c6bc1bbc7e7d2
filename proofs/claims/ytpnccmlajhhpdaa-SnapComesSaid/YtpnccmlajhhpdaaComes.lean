/- SnapComes: a text that is taken piece by piece. -/
import Derived.Test.YtpnccmlajhhpdaaSpLaw
namespace Go.Proofs.Ytpnccmlajhhpdaa
open Go.RowKit Abs

section
variable {t : Bytes} {ix lt : Int} {s : St} {a f : Nat}
/-- how far it has come -/
def come (t : Bytes) (a f : Nat) : Nat := if f = a then min (a + 2048) t.length else a
theorem come_ge (ha : a ≤ t.length) : a ≤ come t a f := by unfold come; split <;> omega
theorem come_le (ha : a ≤ t.length) : come t a f ≤ t.length := by unfold come; split <;> omega
theorem rst_come (hix : 1 ≤ ix) (hs : (s = ⟨0, 0, 0, []⟩ ∧ a = 0) ∨ s = ⟨ix, lt, t.length, t.take a⟩) : rst s ix lt (t.length : Int) = ⟨ix, lt, t.length, t.take a⟩ := by
  unfold rst
  rcases hs with ⟨rfl, rfl⟩ | rfl
  · rw [if_neg (fun h => by have := h.1; simp only at this; omega)]
    rw [List.take_zero]
  · rw [if_pos ⟨rfl, rfl, rfl⟩]
theorem add_come (ha : a ≤ t.length) : addT ⟨ix, lt, t.length, t.take a⟩ (f : Int) ((t.drop f).take 2048) = ⟨ix, lt, t.length, t.take (come t a f)⟩ := by
  have hl : (t.take a).length = a := by rw [List.length_take]; omega
  unfold addT come
  by_cases hfa : f = a
  · subst hfa
    rw [if_pos rfl, if_pos ?_]
    · have e : t.take f ++ (t.drop f).take 2048 = t.take (min (f + 2048) t.length) := by
        rw [← List.take_add]
        by_cases h : f + 2048 ≤ t.length
        · rw [Nat.min_eq_left h]
        · rw [Nat.min_eq_right (by omega), List.take_of_length_le (by omega), List.take_length]
      rw [e]
    · refine ⟨by rw [hl], ?_⟩
      simp only [hl, List.length_take, List.length_drop]
      omega
  · rw [if_neg hfa, if_neg ?_]
    intro h
    have := h.1
    simp only [hl] at this
    omega
theorem told_come (ha : a ≤ t.length) : told ⟨ix, lt, t.length, t.take a⟩ = if a < t.length then [.int .i64 (a : Int), strA [], .bool false] else [.int .i64 (t.length : Int), strA t, .bool true] := by
  have hl : (t.take a).length = a := by rw [List.length_take]; omega
  unfold told
  simp only [hl]
  by_cases h : a < t.length
  · rw [if_pos h, if_pos (by omega)]
  · rw [if_neg h, if_neg (by omega), List.take_of_length_le (by omega)]
end
theorem quo_2048 {n : Nat} (h : n ≤ 65536) : quoI .i64 (n : Int) 2048 = some ((n / 2048 : Nat) : Int) := by
  have e : quoI .i64 (n : Int) 2048 = some (IntKind.i64.wrap ((n : Int).tdiv 2048)) := rfl
  rw [e, show (n : Int).tdiv 2048 = ((n / 2048 : Nat) : Int) from rfl, wrap_nat_i64 (by omega)]
section
variable {n d X lo M N W : Nat} {t : Bytes} {ix lt : Int} {x : AV} {zs : List Int}
set_option maxRecDepth 100000 in
theorem comes_loop {t39 : Int} {k33 : AHeap → R} (hn : t.length ≤ 65536) (hz : zs.length ≤ 100) (hix : 1 ≤ ix) (h39 : t39 = ((2 + t.length / 2048 + zs.length : Nat) : Int)) (hNX : N ≤ X) (hX : X < lo) (hM : M < lo) (hMX : M ≠ X) :
    ∀ (fu i a : Nat) (h : AHeap) (s : St), 2 + t.length / 2048 + zs.length < fu + i → i ≤ 2 + t.length / 2048 + zs.length → a ≤ t.length → 2048 * (i - zs.length) ≤ a → ((s = ⟨0, 0, 0, []⟩ ∧ a = 0) ∨ s = ⟨ix, lt, t.length, t.take a⟩) →
      (∃ c, InAt lo c X h s) → RowH h M 39 [.int .i64 ix, .int .i64 lt] → Slc N h 1 x (zs.map fun z => [.int .i64 z]) → lo ≤ h.next → memB 5 h.ex = false →
      Ends (law19_SnapComes_L0 (world n (d + 2)) t x (.ptr M 0) (.ptr X 0) t39 k33 fu (a : Int) (i : Int) h) (.bool true) (fun _ => True) := by
  intro fu
  induction fu with
  | zero => intro i a h s h1 h2; omega
  | succ fu ih =>
    intro i a h s hf hi0 ha hprog hs hin hm hsl hlo hex
    have h39' := h39
    subst h39
    rw [law19_SnapComes_L0_s]
    unfold law19_SnapComes_L0b
    rw [lett_eq]
    have hi : i < 2 + t.length / 2048 + zs.length := by
      rcases Nat.lt_or_ge i (2 + t.length / 2048 + zs.length) with h | h
      · exact h
      · have : i - zs.length = 2 + t.length / 2048 := by omega
        rw [this] at hprog
        omega
    rw [lt_true (show (i : Int) < ((2 + t.length / 2048 + zs.length : Nat) : Int) by omega), ifB_true, hsl.len, obind_val, List.length_map, lett_eq]
    refine Ends.lett fun j54 hj54 => ?_
    have hok : s.ok := by
      rcases hs with ⟨rfl, _⟩ | rfl
      · exact ⟨Int.le_refl _, by decide⟩
      · refine ⟨?_, by simp only; omega⟩
        simp only [List.length_take]
        omega
    have hj : ∀ b54 : Bool, (b54 = true → ∃ hi2 : i < zs.length, 0 ≤ zs[i]) → Ends (j54 b54 h) (.bool true) (fun _ => True) := by
      intro b54 hb54
      rw [hj54]
      refine Ends.lett fun j63 hj63 => ?_
      have h63 : ∀ b63 : Bool, (b63 = true → ∃ (f : Nat) (hi2 : i < zs.length), f ≤ t.length ∧ zs[i] = (f : Int)) → Ends (j63 b63 h) (.bool true) (fun _ => True) := by
        intro b63 hb63
        rw [hj63]
        refine Ends.lett fun k55 hk55 => ?_
        have K : ∀ f : Nat, f ≤ t.length → (f = a ∨ i < zs.length) → Ends (k55 (f : Int) h) (.bool true) (fun _ => True) := by
          intro f hfl hfa
          rw [hk55]
          show Ends (callN (world n (d + 2) 10 [strA t, .int .i64 (f : Int)] h) _) _ _
          rw [piece_ok hfl, callN_ret]
          have c0 := hm.cell' (o := 0) (v := .int .i64 ix) rfl
          have c1 := hm.cell' (o := 1) (v := .int .i64 lt) rfl
          simp only [extT_0, extT_1, obind_val, avStr_str, avInt_int]
          rw [lett_eq, show ((0 : Int) != 0) = false from rfl, ifB_false]
          simp only [fldP_p, Nat.zero_add, Nat.add_zero, obind_val, c0, c1, avInt_int]
          obtain ⟨c00, hin0⟩ := hin
          obtain ⟨c, hin1, hc⟩ := hin0.pick (h.next + lo + 9)
          have M1 : Msg [.int .u8 0, .int .i64 0, .int .i64 0, .int .i64 0, .int .i64 ix, .int .i64 lt, .int .i64 0, .int .i64 0, .bool false, .nsl, .int .i64 (f : Int), .int .i64 (lenS t), strA ((t.drop f).take 2048), .int .i64 0, .int .i64 0, .int .i64 0, .int .i64 0, .int .i64 0, .int .i64 0, .int .u8 0, .int .i64 0, .int .i64 0] ix lt (f : Int) (lenS t) ((t.drop f).take 2048) := ⟨rfl, rfl, rfl, rfl, rfl, rfl, rfl⟩
          obtain ⟨h3, q1, ⟨c', hcc, q3⟩, q4⟩ := inPut_good (call := world n (d + 1)) (n := n) M1 (by unfold bad; rw [lenS_nat]; omega) hok hin1 hX (by omega) hlo hex
          have erst : rst s ix lt (lenS t) = ⟨ix, lt, t.length, t.take a⟩ := rst_come hix hs
          rw [erst, add_come ha] at q1 q3
          have hcl := come_le (f := f) ha
          have hcg := come_ge (f := f) ha
          have htold : ∃ (r2 : Bytes) (r3 : Bool), told ⟨ix, lt, t.length, t.take (come t a f)⟩ = [.int .i64 (come t a f : Int), strA r2, .bool r3] ∧ ((come t a f < t.length ∧ r2 = [] ∧ r3 = false) ∨ (come t a f = t.length ∧ r2 = t ∧ r3 = true)) := by
            rw [told_come hcl]
            by_cases hw : come t a f < t.length
            · rw [if_pos hw]
              exact ⟨[], false, rfl, .inl ⟨hw, rfl, rfl⟩⟩
            · rw [if_neg hw]
              have e : come t a f = t.length := by omega
              exact ⟨t, true, by rw [e], .inr ⟨e, rfl, rfl⟩⟩
          obtain ⟨r2, r3, et, hr⟩ := htold
          rw [et] at q1
          have hcome : come t a f = if f = a then min (a + 2048) t.length else a := rfl
          generalize come t a f = e at *
          rw [w_snap_Inbox_Put, q1, callN_ret]
          simp only [extT_0, extT_1, extT_2, obind_val, avStr_str, avInt_int, avBool_bool]
          rw [lett_eq]
          refine Ends.lett fun j99 hj99 => ?_
          rw [decide_eq_false (show ¬ (e : Int) < (a : Int) by omega), ifB_false, lett_eq, lenS_nat, decide_eq_false (show ¬ (e : Int) > (t.length : Int) by omega), hj99]
          refine Ends.lett fun j112 hj112 => ?_
          have k112 : Ends (j112 false h3) (.bool true) (fun _ => True) := by
            rw [hj112]
            refine Ends.lett fun j122 hj122 => ?_
            have k122 : Ends (j122 false h3) (.bool true) (fun _ => True) := by
              rw [hj122]
              show Ends (ifB false _ _) _ _
              rw [ifB_false]
              rcases hr with ⟨hlt, rfl, rfl⟩ | ⟨heq, rfl, rfl⟩
              · rw [ifB_false, eqS_eq, beq_self_eq_true, Bool.not_true, lett_eq, ifB_false, lett_eq, wrap_succ (by omega)]
                have hn4 := q4.next
                refine ih (i + 1) e h3 _ (by omega) (by omega) hcl ?_ (.inr rfl) ⟨c', q3⟩ (hm.same (q4.get M (by omega) hMX (by omega))) ?_ (by omega) (by rw [q4.ex]; exact hex)
                · rcases hfa with hfa | hfa
                  · rw [if_pos hfa] at hcome
                    omega
                  · rw [show i + 1 - zs.length = 0 by omega]
                    omega
                · refine hsl.keep (Nat.le_refl _) fun b o hb hg => ?_
                  rw [q4.get b (by omega) (by omega) (by omega)]
                  exact hg
              · rw [ifB_true, lett_eq, lenS_nat, beq_t (by omega)]
                refine Ends.lett fun j133 hj133 => ?_
                rw [ifB_true, lett_eq, eqS_eq, beq_self_eq_true, hj133]
                exact ⟨h3, rfl, trivial⟩
            rw [ifB_false, lett_eq]
            refine Ends.lett fun j121 hj121 => ?_
            by_cases hfa2 : f = a
            · rw [bne_f (by omega), ifB_false, hj121]
              exact k122
            · rw [bne_t (by omega), ifB_true, lett_eq]
              rw [if_neg hfa2] at hcome
              rw [bne_f (by omega), hj121]
              exact k122
          rw [ifB_false, lett_eq]
          refine Ends.lett fun j111 hj111 => ?_
          by_cases hfa2 : f = a
          · rw [beq_t (by omega), ifB_true, lett_eq, lett_eq]
            rw [if_pos hfa2] at hcome
            have hpl : ((t.drop f).take 2048).length = min 2048 (t.length - f) := by rw [List.length_take, List.length_drop]
            rw [show lenS ((t.drop f).take 2048) = ((min 2048 (t.length - f) : Nat) : Int) from by rw [lenS_nat, hpl], wrap_i64 (by omega) (by omega), bne_f (by omega), hj111]
            exact k112
          · rw [beq_f (by omega), ifB_false, hj111]
            exact k112
        cases b63 with
        | false =>
          rw [ifB_false]
          exact K a ha (.inl rfl)
        | true =>
          obtain ⟨f, hi2, h1, h2⟩ := hb63 rfl
          obtain ⟨b, hb, e1, e2⟩ := hsl.cell (f := fun z => AV.int .i64 z) hi2
          rw [ifB_true, e1, obind_val, e2, obind_val, h2, avInt_int, obind_val]
          exact K f h1 (.inr hi2)
      cases b54 with
      | false =>
        rw [ifB_false]
        exact h63 false (fun h => by cases h)
      | true =>
        obtain ⟨hi2, h0⟩ := hb54 rfl
        obtain ⟨b, hb, e1, e2⟩ := hsl.cell (f := fun z => AV.int .i64 z) hi2
        rw [ifB_true, e1, obind_val, e2, obind_val, avInt_int, obind_val, lett_eq, lenS_nat]
        refine h63 _ fun hd => ?_
        rw [decide_eq_true_iff] at hd
        obtain ⟨f, hf0⟩ := Int.eq_ofNat_of_zero_le h0
        exact ⟨f, hi2, by omega, hf0⟩
    by_cases hi2 : i < zs.length
    · obtain ⟨b, hb, e1, e2⟩ := hsl.cell (f := fun z => AV.int .i64 z) hi2
      rw [lt_true (show (i : Int) < (zs.length : Int) by omega), ifB_true, e1, obind_val, e2, obind_val, avInt_int, obind_val, lett_eq]
      exact hj _ fun hd => ⟨hi2, by simpa using hd⟩
    · rw [lt_false (show (zs.length : Int) ≤ (i : Int) by omega), ifB_false]
      exact hj false (fun h => by cases h)
end
set_option maxRecDepth 100000 in
theorem ints44 {h : AHeap} {x : AV} (hp : ArgP Try.prog h.next h 12 44 x) : ∃ zs : List Int, Slc h.next h 1 x (zs.map fun z => [.int .i64 z]) := by
  obtain ⟨zs, h1, _⟩ := hp.ints Try.underlying44 Try.underlying3 (by kernel_rfl)
  exact ⟨zs, h1⟩
set_option maxRecDepth 100000 in
/-- the law of a text that comes -/
theorem snapComes_says (h : AHeap) (hX : h.ex = [89]) (xs : List AV) (hP : ArgsP Try.prog h.next h 12 [9, 39, 44] xs) : ∃ h', Says Try.prog 6 xs h (.ret (.bool true)) h' := by
  obtain ⟨_, _, rfl, hp0, hP⟩ := args_cons hP
  obtain ⟨_, _, rfl, hp1, hP⟩ := args_cons hP
  obtain ⟨x, _, rfl, hp2, hP⟩ := args_cons hP
  obtain rfl := args0 hP
  obtain ⟨t, rfl, _⟩ := hp0.str Try.underlying9
  obtain ⟨l, hx, hq⟩ := ArgP.agg (t := 39) (by kernel_rfl) hp1
  subst hx
  obtain ⟨l0, l1, rfl, h0, h1⟩ := Plain.struct2 Try.underlying39 hq
  obtain ⟨ix, rfl, _⟩ := h0.int Try.underlying3
  obtain ⟨lt, rfl, _⟩ := h1.int Try.underlying3
  obtain ⟨zs, hs⟩ := ints44 hp2
  obtain ⟨n, hn⟩ : ∃ n, n = 2 + t.length / 2048 + zs.length + 5 := ⟨_, rfl⟩
  have key : ∃ h', world n 4 6 [strA t, .agg [.int .i64 ix, .int .i64 lt], x] h = some (.ret (.bool true), h') := by
    have toE : ∀ x : R, Ends x (.bool true) (fun _ => True) → ∃ h', x = some (.ret (.bool true), h') := fun x ⟨h', e, _⟩ => ⟨h', e⟩
    rw [w_law19_SnapComes]
    refine toE _ ?_
    unfold law19_SnapComes
    have tM : Tch [] h (newH h 39 [.int .i64 ix, .int .i64 lt]) := Tch.newH _ _ _ _
    have rM := RowH.new h 39 [.int .i64 ix, .int .i64 lt]
    have nM : (newH h 39 [.int .i64 ix, .int .i64 lt]).next = h.next + 1 := rfl
    have pM : newP h = .ptr h.next 0 := rfl
    rw [box_agg rfl, outK_val, pM]
    generalize newH h 39 [.int .i64 ix, .int .i64 lt] = hM at *
    rw [works_w, callK_ret, avBool_bool, obind_val, lett_eq, Bool.not_true, ifB_false, lett_eq, lenS_nat]
    refine Ends.lett fun j25 hj25 => ?_
    have k25 : ∀ b, (b = false → t.length ≤ 65536 ∧ 1 ≤ ix) → Ends (j25 b hM) (.bool true) (fun _ => True) := by
      intro b hb
      rw [hj25]
      refine Ends.lett fun j30 hj30 => ?_
      have k30 : ∀ b2, (b2 = false → t.length ≤ 65536 ∧ 1 ≤ ix ∧ zs.length ≤ 100) → Ends (j30 b2 hM) (.bool true) (fun _ => True) := by
        intro b2 hb2
        rw [hj30]
        cases b2 with
        | true => exact ⟨hM, rfl, trivial⟩
        | false =>
          obtain ⟨g1, g2, g3⟩ := hb2 rfl
          show Ends (ifB false _ _) _ _
          rw [ifB_false, inbox_w, callN_ret, quo_2048 g1, obind_val, lett_eq, lett_eq, hs.len, List.length_map, obind_val, lett_eq]
          refine Ends.lett fun k33 hk33 => ?_
          have w1 : IntKind.i64.wrap (1 + ((t.length / 2048 : Nat) : Int)) = ((1 + t.length / 2048 : Nat) : Int) := by rw [wrap_i64 (by omega) (by omega)]; omega
          have w2 : IntKind.i64.wrap (((1 + t.length / 2048 : Nat) : Int) + 1) = ((2 + t.length / 2048 : Nat) : Int) := by rw [wrap_i64 (by omega) (by omega)]; omega
          have w3 : IntKind.i64.wrap (((2 + t.length / 2048 : Nat) : Int) + (zs.length : Int)) = ((2 + t.length / 2048 + zs.length : Nat) : Int) := by rw [wrap_i64 (by omega) (by omega)]; omega
          rw [w1, w2, w3]
          have tA1 : Tch [] hM (newH hM 98 [.int .i64 0, .int .i64 0, .int .i64 0, .nsl]) := Tch.newH _ _ _ _
          have rA := RowH.new hM 98 [.int .i64 0, .int .i64 0, .int .i64 0, .nsl]
          have nA : (newH hM 98 [.int .i64 0, .int .i64 0, .int .i64 0, .nsl]).next = hM.next + 1 := rfl
          have pA : newP hM = .ptr hM.next 0 := rfl
          rw [pA]
          generalize newH hM 98 [.int .i64 0, .int .i64 0, .int .i64 0, .nsl] = hA at *
          have tA := tM.trans tA1
          exact comes_loop (n := n) (d := 1) (N := h.next) (X := hM.next) (M := h.next) (lo := hA.next) g1 g3 g2 rfl (by omega) (by omega) (by omega) (by omega) n 0 0 hA ⟨0, 0, 0, []⟩ (by omega) (by omega) (by omega) (by omega) (.inl ⟨rfl, rfl⟩)
            ⟨0, .nsl, rA, .inl ⟨rfl, rfl⟩⟩ (rM.tch tA1 (by omega) (by simp)) (hs.tch tA (Nat.le_refl _) (by simp)) (Nat.le_refl _) (by rw [tA.2.1, hX]; rfl)
      cases b with
      | true => rw [ifB_true]; exact k30 true (fun h => by cases h)
      | false =>
        obtain ⟨g1, g2⟩ := hb rfl
        rw [ifB_false, hs.len, List.length_map, obind_val, lett_eq]
        exact k30 _ fun hd => ⟨g1, g2, by rw [decide_eq_false_iff_not] at hd; omega⟩
    by_cases hbig : (t.length : Int) > 65536
    · rw [decide_eq_true hbig, ifB_true]
      exact k25 true (fun h => by cases h)
    · rw [decide_eq_false hbig, ifB_false]
      have c0 := rM.cell' (o := 0) (v := .int .i64 ix) rfl
      simp only [fldP_p, Nat.add_zero, obind_val, c0, avInt_int]
      rw [lett_eq]
      exact k25 _ fun hd => ⟨by omega, by rw [decide_eq_false_iff_not] at hd; omega⟩
  obtain ⟨h', hk⟩ := key
  exact ⟨h', world_ok _ _ _ _ _ _ _ hk⟩
end Go.Proofs.Ytpnccmlajhhpdaa
