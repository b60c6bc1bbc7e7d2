/- Inboxes: what a piece put in comes to, the program's and the document's. -/
import Derived.Test.YtpnccmlajhhpdaaGs
namespace Go.Proofs.Ytpnccmlajhhpdaa
open Go.RowKit Abs

theorem conv46 (h : AHeap) : opConv Try.prog h 46 9 (some .nsl) = some (.val (strA []), h) := by kernel_rfl
theorem bytes46 : isBytes Try.prog 46 = true := by kernel_rfl
theorem str9 : isStr Try.prog 9 = true := by kernel_rfl
theorem not9 : notInt Try.prog 9 = true := by kernel_rfl
theorem el46 : Abs.elemOf Try.prog 46 = some 5 := by kernel_rfl
theorem cells5 : Try.prog.cellsOf 5 = 1 := by kernel_rfl
theorem fit5 : fitB Try.prog 5 1 = true := by kernel_rfl
theorem agg3 : aggO Try.prog 3 = some false := by kernel_rfl
theorem nil27 (h : AHeap) (b o : Nat) : opBin Try.prog h .eql 27 true (some (.ptr b o)) (some .nilp) = some (.val (.bool false), h) := by kernel_rfl
theorem eq39a (a b c d : Int) : eqOther Try.prog 39 (.agg [.int .i64 a, .int .i64 b]) (.agg [.int .i64 c, .int .i64 d]) = eqA Try.prog 2000 39 (.agg [.int .i64 a, .int .i64 b]) (.agg [.int .i64 c, .int .i64 d]) := by kernel_rfl
theorem eq39b (a b c d : Int) : eqA Try.prog 2000 39 (.agg [.int .i64 a, .int .i64 b]) (.agg [.int .i64 c, .int .i64 d]) = eqFields Try.prog 1999 (Try.prog.fieldsOf 39).toList [.int .i64 a, .int .i64 b] [.int .i64 c, .int .i64 d] := by kernel_rfl
theorem eq39c (a b : Int) (m : Nat) : eqA Try.prog (m + 1) 3 (.int .i64 a) (.int .i64 b) = some (a == b) := by kernel_rfl
theorem eq39f : ∃ f0 f1 : Field, (Try.prog.fieldsOf 39).toList = [f0, f1] ∧ (f0.name == "_") = false ∧ (f1.name == "_") = false ∧ f0.type = 3 ∧ f1.type = 3 ∧ f0.offset = 0 ∧ f1.offset = 1 := by
  have h : ((Try.prog.fieldsOf 39).toList.map fun f => (f.name == "_", f.type, f.offset)) = [(false, 3, 0), (false, 3, 1)] := by kernel_rfl
  have hlen : (Try.prog.fieldsOf 39).toList.length = 2 := by
    have := congrArg List.length h
    rw [List.length_map] at this
    exact this
  generalize (Try.prog.fieldsOf 39).toList = L at *
  match L, hlen with
  | [f0, f1], _ =>
    simp only [List.map_cons, List.map_nil, List.cons.injEq, Prod.mk.injEq, and_true] at h
    exact ⟨f0, f1, rfl, h.1.1, h.2.1, h.1.2.1, h.2.2.1, h.1.2.2, h.2.2.2⟩
theorem part39 (a b : Int) : partA Try.prog 3 [.int .i64 a, .int .i64 b] 0 = some (.int .i64 a) ∧ partA Try.prog 3 [.int .i64 a, .int .i64 b] 1 = some (.int .i64 b) := ⟨by kernel_rfl, by kernel_rfl⟩
theorem eq39 (a b c d : Int) : eqOther Try.prog 39 (.agg [.int .i64 a, .int .i64 b]) (.agg [.int .i64 c, .int .i64 d]) = some (a == c && b == d) := by
  rw [eq39a, eq39b]
  obtain ⟨f0, f1, hl, n0, n1, t0, t1, o0, o1⟩ := eq39f
  rw [hl]
  have m0 : ¬ f0.name = "_" := fun e => by simp [e] at n0
  have m1 : ¬ f1.name = "_" := fun e => by simp [e] at n1
  obtain ⟨m, hm⟩ : ∃ m, 1999 = m + 3 := ⟨1996, rfl⟩
  rw [hm]
  unfold eqFields
  rw [if_neg m0, t0, o0, (part39 a b).1, (part39 c d).1]
  simp only [eq39c]
  cases (a == c) with
  | false => rfl
  | true =>
    simp only
    unfold eqFields
    rw [if_neg m1, t1, o1, (part39 a b).2, (part39 c d).2]
    simp only [eq39c]
    cases (b == d) with
    | false => rfl
    | true => simp only [eqFields]; rfl
theorem bld98 (a b c : Int) : bldS Try.prog 98 [(0, .agg [.int .i64 a, .int .i64 b]), (1, .int .i64 c)] = some [.int .i64 a, .int .i64 b, .int .i64 c, .nsl] := by kernel_rfl
/-- to go on with a name in place of what is told -/
theorem lett_gen {α : Type} {F : α} {G : α → R} {r : R} (h : ∀ k, k = F → G k = r) : lett F G = r := h F rfl
structure St where
  ix : Int
  lt : Int
  tot : Int
  t : Bytes
def bad (ix at' tot : Int) : Prop := tot < 0 ∨ tot > 262144 ∨ at' < 0 ∨ ix < 1
def St.same (s : St) (ix lt tot : Int) : Prop := ix = s.ix ∧ lt = s.lt ∧ tot = s.tot
def St.fits (s : St) (at' : Int) (d : Bytes) : Prop := at' = (s.t.length : Int) ∧ (d.length : Int) ≤ s.tot - s.t.length
open Classical in
noncomputable def rst (s : St) (ix lt tot : Int) : St := if s.same ix lt tot then s else ⟨ix, lt, tot, []⟩
open Classical in
noncomputable def addT (s : St) (at' : Int) (d : Bytes) : St := if s.fits at' d then ⟨s.ix, s.lt, s.tot, s.t ++ d⟩ else s
noncomputable def told (s : St) : List AV := if (s.t.length : Int) < s.tot then [.int .i64 s.t.length, strA [], .bool false] else [.int .i64 s.tot, strA s.t, .bool true]
def St.ok (s : St) : Prop := (s.t.length : Int) ≤ s.tot ∧ s.tot ≤ 262144
/-- a message's cells -/
structure Msg (m : List AV) (ix lt at' tot : Int) (d : Bytes) : Prop where
  len : m.length = 22
  one : m.all AV.one = true
  f4 : m[4]? = some (.int .i64 ix)
  f5 : m[5]? = some (.int .i64 lt)
  f10 : m[10]? = some (.int .i64 at')
  f11 : m[11]? = some (.int .i64 tot)
  f12 : m[12]? = some (strA d)
noncomputable def refC (s : St) : List AV := [.int .i64 s.ix, .int .i64 s.lt, .int .i64 s.tot, strA s.t]
theorem fldP_newP (f : Nat) (h : AHeap) : fldP f (newP h) = some (.ptr h.next f) := by
  show some (AV.ptr h.next (0 + f)) = _
  rw [Nat.zero_add]
theorem fldP_p (f b o : Nat) : fldP f (.ptr b o) = some (.ptr b (o + f)) := rfl
theorem nilC_p (b o : Nat) : nilC (.ptr b o) = some (.ptr b o) := rfl
theorem bne_t {a b : Int} (h : a ≠ b) : (a != b) = true := by simp [h]
theorem bne_f {a b : Int} (h : a = b) : (a != b) = false := by simp [h]
theorem beq_t {a b : Int} (h : a = b) : (a == b) = true := by simp [h]
theorem beq_f {a b : Int} (h : a ≠ b) : (a == b) = false := by simp [h]
section
variable {call : CallF} {n W : Nat} {h : AHeap} {m : List AV} {ix lt at' tot : Int} {d : Bytes} {s : St}
theorem refPut_bad (hm : Msg m ix lt at' tot d) (hb : bad ix at' tot) : ref19_Inbox_Put call n (.ptr W 0) m h = some (.ret (.tup [.int .i64 0, strA [], .bool false]), newH h 35 m) := by
  have c4 := (cell_newH h 35 m 4).trans hm.f4
  have c10 := (cell_newH h 35 m 10).trans hm.f10
  have c11 := (cell_newH h 35 m 11).trans hm.f11
  unfold ref19_Inbox_Put
  rw [box_agg hm.one, outK_val, fldP_newP, obind_val, c11, obind_val, avInt_int, obind_val, lett_eq]
  refine lett_gen fun j14 hj14 => ?_
  have k14 : j14 true (newH h 35 m) = some (.ret (.tup [.int .i64 0, strA [], .bool false]), newH h 35 m) := by
    rw [hj14]
    refine lett_gen fun j19 hj19 => ?_
    rw [ifB_true, hj19]
    refine lett_gen fun j24 hj24 => ?_
    rw [ifB_true, hj24]
    rfl
  by_cases h1 : tot < 0
  · rw [decide_eq_true h1, ifB_true]
    exact k14
  · rw [decide_eq_false h1, ifB_false, obind_val, c11, obind_val, avInt_int, obind_val, lett_eq]
    by_cases h2 : tot > 262144
    · rw [decide_eq_true h2]
      exact k14
    · rw [decide_eq_false h2, hj14]
      refine lett_gen fun j19 hj19 => ?_
      rw [ifB_false, fldP_newP, obind_val, c10, obind_val, avInt_int, obind_val, lett_eq]
      by_cases h3 : at' < 0
      · rw [decide_eq_true h3, hj19]
        refine lett_gen fun j24 hj24 => ?_
        rw [ifB_true, hj24]
        rfl
      · rw [decide_eq_false h3, hj19]
        refine lett_gen fun j24 hj24 => ?_
        have h4 : ix < 1 := by unfold bad at hb; omega
        rw [ifB_false, fldP_newP, obind_val, c4, obind_val, avInt_int, obind_val, lett_eq, decide_eq_true h4, hj24]
        rfl
theorem told_ref (hs : s.ok) : told s = if ((s.t.length : Int) == s.tot) = true then [.int .i64 s.tot, strA s.t, .bool true] else [.int .i64 s.t.length, strA [], .bool false] := by
  unfold told
  unfold St.ok at hs
  by_cases h : (s.t.length : Int) = s.tot
  · rw [if_neg (by omega), if_pos (beq_t h)]
  · rw [if_pos (by omega), if_neg (by simp [h])]
theorem addT_ok (hs : s.ok) : (addT s at' d).ok := by
  unfold addT
  split
  · rename_i hf
    unfold St.fits at hf
    unfold St.ok at hs ⊢
    simp only [List.length_append]
    omega
  · exact hs
theorem rst_ok (hs : s.ok) (hb : ¬ bad ix at' tot) : (rst s ix lt tot).ok := by
  unfold rst
  split
  · exact hs
  · unfold bad at hb
    unfold St.ok
    simp only [List.length_nil]
    omega
def Ends (x : R) (v : AV) (Q : AHeap → Prop) : Prop := ∃ h', x = some (.ret v, h') ∧ Q h'
theorem Ends.lett {α : Type} {F : α} {G : α → R} {v : AV} {Q : AHeap → Prop} (h : ∀ k, k = F → Ends (G k) v Q) : Ends (lett F G) v Q := h F rfl
theorem Tch.st {S : List Nat} {h h' : AHeap} {b : Nat} (h1 : h'.next = h.next) (h2 : h'.ex = h.ex) (h3 : ∀ i, i ≠ b → h'.get i = h.get i) (hb : b ∈ S) : Tch S h h' := tch_of h1 h2 h3 (.inl hb)
theorem refPut_good (hm : Msg m ix lt at' tot d) (hb : ¬ bad ix at' tot) (hs : s.ok) (k : RowH h W 50 (refC s)) (hW : W < h.next) :
    Ends (ref19_Inbox_Put call n (.ptr W 0) m h) (.tup (told (addT (rst s ix lt tot) at' d))) fun h' => RowH h' W 50 (refC (addT (rst s ix lt tot) at' d)) ∧ Tch [W] h h' := by
  have hM : RowH (newH h 35 m) h.next 35 m := RowH.new _ _ _
  have t0 : Tch [W] h (newH h 35 m) := Tch.newH _ _ _ _
  have k0 : RowH (newH h 35 m) W 50 (refC s) := k.tch (Tch.newH [] h 35 m) hW (by simp)
  have hMn : h.next < (newH h 35 m).next := lt_newH _ _ _
  have hne : h.next ≠ W := by omega
  obtain ⟨b1, b2, b3, b4⟩ : ¬ tot < 0 ∧ ¬ tot > 262144 ∧ ¬ at' < 0 ∧ ¬ ix < 1 := by unfold bad at hb; omega
  have hro := rst_ok (lt := lt) hs hb
  unfold ref19_Inbox_Put
  rw [box_agg hm.one, outK_val]
  simp only [fldP_newP, obind_val]
  generalize newH h 35 m = h1 at *
  generalize h.next = M at *
  have c4 := hM.cell' hm.f4
  have c5 := hM.cell' hm.f5
  have c10 := hM.cell' hm.f10
  have c11 := hM.cell' hm.f11
  simp only [c11, obind_val, avInt_int]
  rw [lett_eq]
  refine Ends.lett fun j14 hj14 => ?_
  rw [decide_eq_false b1, ifB_false, lett_eq, decide_eq_false b2, hj14]
  refine Ends.lett fun j19 hj19 => ?_
  simp only [c10, obind_val, avInt_int]
  rw [ifB_false, lett_eq, decide_eq_false b3, hj19]
  refine Ends.lett fun j24 hj24 => ?_
  simp only [c4, obind_val, avInt_int]
  rw [ifB_false, lett_eq, decide_eq_false b4, hj24]
  show Ends (ifB false _ _) _ _
  rw [ifB_false]
  clear hj24 hj19 hj14 j24 j19 j14
  refine Ends.lett fun k22 hk22 => ?_
  have fin : ∀ b, (b = true ↔ ¬ s.same ix lt tot) → Ends (k22 b h1) (.tup (told (addT (rst s ix lt tot) at' d))) fun h' => RowH h' W 50 (refC (addT (rst s ix lt tot) at' d)) ∧ Tch [W] h h' := by
    intro b hbs
    rw [hk22]
    refine Ends.lett fun k24 hk24 => ?_
    have tail : ∀ h2 s2, s2.ok → RowH h2 W 50 (refC s2) → RowH h2 M 35 m → Tch [W] h h2 → Ends (k24 h2) (.tup (told (addT s2 at' d))) fun h' => RowH h' W 50 (refC (addT s2 at' d)) ∧ Tch [W] h h' := by
      intro h2 s2 ho2 kW kM tt
      have w2 := kW.cell' (o := 2) (v := .int .i64 s2.tot) rfl
      have w3 := kW.cell' (o := 3) (v := strA s2.t) rfl
      have d10 := kM.cell' hm.f10
      have d12 := kM.cell' hm.f12
      rw [hk24]
      refine Ends.lett fun k28 hk28 => ?_
      have fin2 : ∀ b, (b = true ↔ s2.fits at' d) → Ends (k28 b h2) (.tup (told (addT s2 at' d))) fun h' => RowH h' W 50 (refC (addT s2 at' d)) ∧ Tch [W] h h' := by
        intro b hbs
        rw [hk28]
        refine Ends.lett fun k30 hk30 => ?_
        have endp : ∀ h3 s3, s3.ok → RowH h3 W 50 (refC s3) → Tch [W] h h3 → Ends (k30 h3) (.tup (told s3)) fun h' => RowH h' W 50 (refC s3) ∧ Tch [W] h h' := by
          intro h3 s3 ho3 kW3 tt3
          have v2 := kW3.cell' (o := 2) (v := .int .i64 s3.tot) rfl
          have v3 := kW3.cell' (o := 3) (v := strA s3.t) rfl
          rw [hk30]
          simp only [nilC_p, fldP_p, Nat.zero_add, obind_val, v2, v3, avInt_int, avStr_str]
          rw [lett_eq, lenS_nat, told_ref ho3]
          by_cases hc : ((s3.t.length : Int) == s3.tot) = true
          · rw [if_pos hc, hc, ifB_true]
            exact ⟨h3, rfl, kW3, tt3⟩
          · rw [if_neg hc, Bool.eq_false_iff.2 hc, ifB_false]
            exact ⟨h3, rfl, kW3, tt3⟩
        cases b with
        | false =>
          rw [ifB_false]
          have : addT s2 at' d = s2 := by unfold addT; rw [if_neg (fun hf => by simpa using hbs.2 hf)]
          rw [this]
          exact endp h2 s2 ho2 kW tt
        | true =>
          have hf := hbs.1 rfl
          have e1 : addT s2 at' d = ⟨s2.ix, s2.lt, s2.tot, s2.t ++ d⟩ := by unfold addT; rw [if_pos hf]
          have hadd : addS s2.t d = some (s2.t ++ d) := by
            unfold addS
            unfold St.fits at hf
            unfold St.ok at ho2
            rw [Nat.ble_eq_true_of_le (by omega)]
          obtain ⟨h3, q1, q2, q3, q4, q5⟩ := kW.st1 (o := 3) (v := strA (s2.t ++ d)) (by simp [refC]) rfl
          simp only [nilC_p, fldP_p, Nat.zero_add, obind_val, w3, d12, avStr_str, hadd, q1, ifB_true]
          have ho3 := addT_ok (at' := at') (d := d) ho2
          rw [e1] at ho3 ⊢
          exact endp h3 _ ho3 q2 (tt.trans (Tch.st q3 q4 q5 (by simp)))
      simp only [nilC_p, fldP_p, Nat.zero_add, obind_val, w2, w3, d10, d12, avInt_int, avStr_str]
      rw [lett_eq, lenS_nat]
      by_cases e1 : at' = (s2.t.length : Int)
      · rw [beq_t e1, ifB_true, lett_eq, lett_eq, lenS_nat]
        have ew : IntKind.i64.wrap (s2.tot - (s2.t.length : Int)) = s2.tot - s2.t.length := by
          unfold St.ok at ho2
          exact wrap_i64 (by omega) (by omega)
        rw [ew]
        refine fin2 _ ?_
        unfold St.fits
        rw [decide_eq_true_iff]
        exact ⟨fun h => ⟨e1, h⟩, fun h => h.2⟩
      · rw [beq_f e1, ifB_false]
        refine fin2 false ?_
        unfold St.fits
        exact ⟨fun h => (by cases h), fun h => absurd h.1 e1⟩
    cases b with
    | false =>
      rw [ifB_false]
      have : rst s ix lt tot = s := by
        unfold rst
        rw [if_pos (Classical.byContradiction fun hn => by simpa using hbs.2 hn)]
      rw [this]
      exact tail h1 s hs k0 hM t0
    | true =>
      have e1 : rst s ix lt tot = ⟨ix, lt, tot, []⟩ := by unfold rst; rw [if_neg (hbs.1 rfl)]
      rw [e1] at hro ⊢
      obtain ⟨h2, p1, p2, p3, p4, p5⟩ := k0.st (o := 0) (n := 2) (vs := [.int .i64 ix, .int .i64 lt]) rfl (by simp [refC]) rfl
      have M2 : RowH h2 M 35 m := hM.same (p5 M hne)
      obtain ⟨h3, q1, q2, q3, q4, q5⟩ := p2.st1 (o := 2) (v := .int .i64 tot) (by simp [refC, laid]) rfl
      have M3 : RowH h3 M 35 m := M2.same (q5 M hne)
      obtain ⟨h4, r1, r2, r3, r4, r5⟩ := q2.st1 (o := 3) (v := strA []) (by simp [refC, laid]) rfl
      have M4 : RowH h4 M 35 m := M3.same (r5 M hne)
      have x11 := M2.cell' hm.f11
      simp only [nilC_p, fldP_p, Nat.zero_add, obind_val, c4, c5, avInt_int, p1, x11, q1, r1, ifB_true]
      exact tail h4 _ hro r2 M4 (((t0.trans (Tch.st p3 p4 p5 (by simp))).trans (Tch.st q3 q4 q5 (by simp))).trans (Tch.st r3 r4 r5 (by simp)))
  have z0 := k0.cell' (o := 0) (v := .int .i64 s.ix) rfl
  have z1 := k0.cell' (o := 1) (v := .int .i64 s.lt) rfl
  have z2 := k0.cell' (o := 2) (v := .int .i64 s.tot) rfl
  simp only [nilC_p, fldP_p, Nat.zero_add, Nat.add_zero, obind_val, c4, c5, c11, z0, z1, z2, avInt_int]
  rw [lett_eq]
  by_cases e1 : ix = s.ix
  · rw [bne_f e1, ifB_false, lett_eq]
    by_cases e2 : lt = s.lt
    · rw [bne_f e2, ifB_false, lett_eq]
      refine fin _ ?_
      unfold St.same
      rw [bne_iff_ne]
      exact ⟨fun h1 h2 => h1 h2.2.2, fun h1 h2 => h1 ⟨e1, e2, h2⟩⟩
    · rw [bne_t e2, ifB_true]
      exact fin true ⟨fun _ h => e2 h.2.1, fun _ => rfl⟩
  · rw [bne_t e1, ifB_true]
    exact fin true ⟨fun _ h => e1 h.1, fun _ => rfl⟩
end
def CV (lo c : Nat) (h : AHeap) (v : AV) (t : Bytes) : Prop := (v = .nsl ∧ t = []) ∨ (v = .sl c 0 t.length 1 ∧ lo ≤ c ∧ c < h.next ∧ rowGet h c 0 t.length = some (bytesC t) ∧ rowType h c = some 5)
/-- but for two rows all is as it was -/
structure Ef (c X : Nat) (h h' : AHeap) : Prop where
  next : h.next ≤ h'.next
  ex : h'.ex = h.ex
  get : ∀ b, b < h.next → b ≠ X → b ≠ c → h'.get b = h.get b
def inC (s : St) (cv : AV) : List AV := [.int .i64 s.ix, .int .i64 s.lt, .int .i64 s.tot, cv]
section
variable {n X lo c : Nat} {h h' h2 : AHeap} {d t : Bytes} {s : St} {cv : AV}
theorem Ef.refl (c X : Nat) (h : AHeap) : Ef c X h h := ⟨Nat.le_refl _, rfl, fun _ _ _ _ => rfl⟩
theorem Ef.newH (a : Ef c X h h') (e : TypeId) (l : List AV) : Ef c X h (newH h' e l) := ⟨Nat.le_succ_of_le a.next, a.ex, fun b hb hx hc => (get_new_other _ (by have := a.next; omega)).trans (a.get b hb hx hc)⟩
theorem Ef.st (a : Ef c X h h') {b : Nat} (h1 : h2.next = h'.next) (h2' : h2.ex = h'.ex) (h3 : ∀ i, i ≠ b → h2.get i = h'.get i) (hb : b = X ∨ b = c ∨ h.next ≤ b) : Ef c X h h2 := ⟨by have := a.next; omega, h2'.trans a.ex, fun i hi hx hc => (h3 i (by omega)).trans (a.get i hi hx hc)⟩
theorem Ef.tch {S : List Nat} (a : Ef c X h h') (k : Tch S h' h2) (hS : ∀ b ∈ S, b = X ∨ b = c ∨ h.next ≤ b) : Ef c X h h2 := ⟨Nat.le_trans a.next k.1, k.2.1.trans a.ex, fun i hi hx hc => (k.2.2 i (by have := a.next; omega) (fun hm => by have := hS i hm; omega)).trans (a.get i hi hx hc)⟩
theorem CV.keep (hc : CV lo c h cv t) (h1 : h.next ≤ h'.next) (h3 : c < h.next → lo ≤ c → h'.get c = h.get c) : CV lo c h' cv t := by
  rcases hc with hc | ⟨e1, e2, e3, e4, e5⟩
  · exact .inl hc
  · have e := h3 e3 e2
    exact .inr ⟨e1, e2, by omega, by unfold rowGet at e4 ⊢; rw [e]; exact e4, by unfold rowType at e5 ⊢; rw [e]; exact e5⟩
theorem CV.newH (hc : CV lo c h cv t) (e : TypeId) (l : List AV) : CV lo c (newH h e l) cv t := hc.keep (Nat.le_succ _) fun hb _ => get_new_other _ (by omega)
theorem CV.len (hc : CV lo c h cv t) : lenL cv = some (t.length : Int) := by
  rcases hc with ⟨rfl, rfl⟩ | ⟨rfl, _⟩ <;> rfl
theorem CV.one (hc : CV lo c h cv t) : cv.one = true := by
  rcases hc with ⟨rfl, rfl⟩ | ⟨rfl, _⟩ <;> rfl
theorem CV.cells (hc : CV lo c h cv t) : AV.cells cv = [cv] := by
  rcases hc with ⟨rfl, rfl⟩ | ⟨rfl, _⟩ <;> rfl
theorem CV.conv (hc : CV lo c h cv t) : opConv Try.prog h 46 9 (some cv) = some (.val (strA t), h) := by
  rcases hc with ⟨rfl, rfl⟩ | ⟨rfl, _, _, e4, _⟩
  · exact conv46 h
  · exact conv_row bytes46 str9 e4
theorem CV.append (hc : CV lo c h cv t) (hlo : lo ≤ h.next) (hex : memB 5 h.ex = false) (hbig : t.length + d.length ≤ 1000000000) :
    ∃ v' h' c', opAppend Try.prog h 46 9 cv (strA d) = some (.val v', h') ∧ CV lo c' h' v' (t ++ d) ∧ (c' = c ∨ h.next ≤ c') ∧ h.next ≤ h'.next ∧ h'.ex = h.ex ∧ ∀ b, b < h.next → b ≠ c → h'.get b = h.get b := by
  cases d with
  | nil =>
    have hn : notInt Try.prog 9 = true := not9
    have hf : firstA h 1 0 (strA []) = some [] := firstA_str (h := h) []
    rcases hc with ⟨rfl, rfl⟩ | hB
    · refine ⟨.nsl, h, c, ?_, .inl ⟨rfl, rfl⟩, .inl rfl, Nat.le_refl _, rfl, fun _ _ _ => rfl⟩
      unfold notInt at hn
      unfold opAppend
      split at hn
      · cases hn
      · rename_i ud hni heq
        have hl : lenA (strA []) = some 0 := rfl
        have hl2 : lenA .nsl = some 0 := rfl
        have hb : bytesFit Try.prog 5 (0 + 0) = true := bytesFit_of fit5 (by omega) (by omega)
        simp only [el46, hl, hl2, heq, cells5, hf, hb, hex, List.all_nil, and_self, if_true]
        rfl
      · cases hn
    · have hB0 := hB
      obtain ⟨rfl, e2, e3, e4, e5⟩ := hB
      refine ⟨_, h, c, append_zero (n := 0) el46 not9 cells5 rfl rfl hf (bytesFit_of fit5 (by simpa using hbig) (by simpa using hbig)) hex, ?_, .inl rfl, Nat.le_refl _, rfl, fun _ _ _ => rfl⟩
      rw [List.append_nil]
      exact .inr hB0
  | cons y d =>
    rcases hc with ⟨rfl, rfl⟩ | ⟨rfl, e2, e3, e4, e5⟩
    · have a2 := append_new (P := Try.prog) (h := h) (t := 46) (u := 9) (x := strA (y :: d)) (n := d.length) el46 not9 cells5 rfl (firstA_str (h := h) (y :: d)) (bytesFit_of fit5 (by simp at hbig; omega) (by simp at hbig; omega)) (bytesC_one _) hex
      refine ⟨_, _, h.next, a2, .inr ⟨rfl, hlo, Nat.lt_succ_self _, ?_, ?_⟩, .inr (Nat.le_refl _), Nat.le_succ _, rfl, fun b hb _ => get_new_other _ (by omega)⟩
      · rw [List.nil_append, ← bytesC_length (y :: d)]
        exact rowGet_newH_all
      · exact rowType_newH
    · have a2 := append_more (P := Try.prog) (h := h) (t := 46) (u := 9) (b := c) (o := 0) (m := t.length) (x := strA (y :: d)) (n := d.length) el46 not9 cells5 rfl (firstA_str (h := h) (y :: d)) (bytesFit_of fit5 (by simp at hbig; omega) (by simp at hbig; omega)) (bytesC_one _) hex (by rw [Nat.mul_one]; exact e4) e5
      refine ⟨_, _, h.next, a2, .inr ⟨by rw [List.length_append, List.length_cons], hlo, Nat.lt_succ_self _, ?_, ?_⟩, .inr (Nat.le_refl _), Nat.le_succ _, rfl, fun b hb hbc => (get_new_other (H := h.put c .dead) _ (show h.next ≠ b by omega)).trans (get_put_other _ (Ne.symm hbc))⟩
      · rw [← bytesC_append, ← bytesC_length (t ++ y :: d)]
        exact rowGet_newH_all (h := h.put c .dead)
      · exact rowType_newH (h := h.put c .dead)
end
section
variable {call : CallF} {n X lo c : Nat} {h : AHeap} {m : List AV} {ix lt at' tot : Int} {d : Bytes} {s : St} {cv : AV}
theorem inPut_bad (hm : Msg m ix lt at' tot d) (hb : bad ix at' tot) : snap_Inbox_Put call n (.ptr X 0) m h = some (.ret (.tup [.int .i64 0, strA [], .bool false]), newH h 35 m) := by
  have c4 := (cell_newH h 35 m 4).trans hm.f4
  have c10 := (cell_newH h 35 m 10).trans hm.f10
  have c11 := (cell_newH h 35 m 11).trans hm.f11
  unfold snap_Inbox_Put
  rw [box_agg hm.one, outK_val, nil27, outK_val, avBool_bool, obind_val]
  refine lett_gen fun j14 hj14 => ?_
  rw [ifB_false, fldP_newP, obind_val, c11, obind_val, avInt_int, obind_val, lett_eq, hj14]
  refine lett_gen fun j19 hj19 => ?_
  have k19 : j19 true (newH h 35 m) = some (.ret (.tup [.int .i64 0, strA [], .bool false]), newH h 35 m) := by
    rw [hj19]
    refine lett_gen fun j24 hj24 => ?_
    rw [ifB_true, hj24]
    refine lett_gen fun j29 hj29 => ?_
    rw [ifB_true, hj29]
    rfl
  by_cases h1 : tot < 0
  · rw [decide_eq_true h1, ifB_true]
    exact k19
  · rw [decide_eq_false h1, ifB_false, fldP_newP, obind_val, c11, obind_val, avInt_int, obind_val, lett_eq]
    by_cases h2 : tot > 262144
    · rw [decide_eq_true h2]
      exact k19
    · rw [decide_eq_false h2, hj19]
      refine lett_gen fun j24 hj24 => ?_
      rw [ifB_false, fldP_newP, obind_val, c10, obind_val, avInt_int, obind_val, lett_eq]
      by_cases h3 : at' < 0
      · rw [decide_eq_true h3, hj24]
        refine lett_gen fun j29 hj29 => ?_
        rw [ifB_true, hj29]
        rfl
      · rw [decide_eq_false h3, hj24]
        refine lett_gen fun j29 hj29 => ?_
        have h4 : ix < 1 := by unfold bad at hb; omega
        rw [ifB_false, fldP_newP, obind_val, c4, obind_val, avInt_int, obind_val, lett_eq, decide_eq_true h4, hj29]
        rfl
/-- an inbox with what came -/
def InAt (lo c X : Nat) (h : AHeap) (s : St) : Prop := ∃ cv, RowH h X 98 (inC s cv) ∧ CV lo c h cv s.t
/-- what is there while a piece is put in -/
structure Mid (lo c X M : Nat) (m : List AV) (h0 h : AHeap) (s : St) : Prop where
  inb : InAt lo c X h s
  msg : RowH h M 35 m
  ef : Ef c X h0 h
  lo : lo ≤ h.next
  ex : memB 5 h.ex = false
theorem inPut_good (hm : Msg m ix lt at' tot d) (hb : ¬ bad ix at' tot) (hs : s.ok) (k : InAt lo c X h s) (hX : X < lo) (hXc : X ≠ c) (hlo : lo ≤ h.next) (hex : memB 5 h.ex = false) :
    Ends (snap_Inbox_Put call n (.ptr X 0) m h) (.tup (told (addT (rst s ix lt tot) at' d))) fun h' => (∃ c', (c' = c ∨ h.next ≤ c') ∧ InAt lo c' X h' (addT (rst s ix lt tot) at' d)) ∧ Ef c X h h' := by
  have k0 : Mid lo c X h.next m h (newH h 35 m) s := by
    obtain ⟨cv, k1, k2⟩ := k
    exact ⟨⟨cv, k1.tch (Tch.newH [] h 35 m) (by omega) (by simp), k2.newH _ _⟩, RowH.new _ _ _, (Ef.refl c X h).newH _ _, Nat.le_succ_of_le hlo, hex⟩
  have hMn : h.next < (newH h 35 m).next := lt_newH _ _ _
  have hne : h.next ≠ X := by omega
  have hlo' : lo ≤ h.next := hlo
  obtain ⟨b1, b2, b3, b4⟩ : ¬ tot < 0 ∧ ¬ tot > 262144 ∧ ¬ at' < 0 ∧ ¬ ix < 1 := by unfold bad at hb; omega
  have hro := rst_ok (lt := lt) hs hb
  unfold snap_Inbox_Put
  rw [box_agg hm.one, outK_val, nil27, outK_val, avBool_bool, obind_val]
  have e4 : fldP 4 (newP h) = some (.ptr h.next 4) := fldP_newP 4 h
  have e5 : fldP 5 (newP h) = some (.ptr h.next 5) := fldP_newP 5 h
  have e10 : fldP 10 (newP h) = some (.ptr h.next 10) := fldP_newP 10 h
  have e11 : fldP 11 (newP h) = some (.ptr h.next 11) := fldP_newP 11 h
  have e12 : fldP 12 (newP h) = some (.ptr h.next 12) := fldP_newP 12 h
  generalize newH h 35 m = h1 at *
  generalize newP h = pM at *
  generalize hMdef : h.next = M at *
  have c4 := k0.msg.cell' hm.f4
  have c5 := k0.msg.cell' hm.f5
  have c10 := k0.msg.cell' hm.f10
  have c11 := k0.msg.cell' hm.f11
  refine Ends.lett fun j14 hj14 => ?_
  rw [ifB_false, e11, obind_val, c11, obind_val, avInt_int, obind_val, lett_eq, decide_eq_false b1, hj14]
  refine Ends.lett fun j19 hj19 => ?_
  rw [ifB_false, e11, obind_val, c11, obind_val, avInt_int, obind_val, lett_eq, decide_eq_false b2, hj19]
  refine Ends.lett fun j24 hj24 => ?_
  rw [ifB_false, e10, obind_val, c10, obind_val, avInt_int, obind_val, lett_eq, decide_eq_false b3, hj24]
  refine Ends.lett fun j29 hj29 => ?_
  rw [ifB_false, e4, obind_val, c4, obind_val, avInt_int, obind_val, lett_eq, decide_eq_false b4, hj29]
  show Ends (ifB false _ _) _ _
  rw [ifB_false, e4, obind_val, c4, obind_val, avInt_int, obind_val, e5, obind_val, c5, obind_val, avInt_int, obind_val, lett_eq]
  clear hj29 hj24 hj19 hj14 j29 j24 j19 j14
  -- the mark in a row of its own
  have n0 := RowH.new h1 39 [.int .i64 0, .int .i64 0]
  have k1 : Mid lo c X M m h (newH h1 39 [.int .i64 0, .int .i64 0]) s := by
    obtain ⟨⟨cv, a1, a2⟩, a3, a4, a5, a6⟩ := k0
    exact ⟨⟨cv, a1.tch (Tch.newH [] h1 39 _) (by omega) (by simp), a2.newH _ _⟩, a3.tch (Tch.newH [] h1 39 _) (by omega) (by simp), a4.newH _ _, Nat.le_succ_of_le a5, a6⟩
  have eN : newP h1 = .ptr h1.next 0 := rfl
  have hN1 : lo ≤ h1.next := k0.lo
  have hN2 : M ≠ h1.next := by omega
  rw [eN]
  have g2 : ∀ b, b < h1.next → (newH h1 39 [.int .i64 0, .int .i64 0]).get b = h1.get b := fun b hb => get_new_other _ (by omega)
  have g3 : (newH h1 39 [.int .i64 0, .int .i64 0]).next = h1.next + 1 := rfl
  generalize newH h1 39 [.int .i64 0, .int .i64 0] = h2 at *
  generalize hNdef : h1.next = N at *
  obtain ⟨h3, p1, p2, p3, p4, p5⟩ := n0.st (o := 0) (n := 2) (vs := [.int .i64 ix, .int .i64 lt]) rfl (by simp) rfl
  have p2 : RowH h3 N 39 [.int .i64 ix, .int .i64 lt] := p2
  have k3 : Mid lo c X M m h h3 s := by
    obtain ⟨_, a3, a4, a5, a6⟩ := k1
    obtain ⟨⟨cv, a1, a2⟩, _, _, _, _⟩ := k0
    refine ⟨⟨cv, a1.same ((p5 X (by omega)).trans (g2 X (by omega))), a2.keep (by omega) fun hb1 hb2 => (p5 c (by omega)).trans (g2 c (by omega))⟩, a3.same (p5 M hN2), a4.st p3 p4 p5 (.inr (.inr (by omega))), by omega, by rw [p4]; exact a6⟩
  have hNX : N ≠ X := by omega
  have hMX : M ≠ X := hne
  clear k0 k1 n0 g2 c4 c5 c10 c11
  rw [p1, obind_val]
  refine Ends.lett fun k35 hk35 => ?_
  have d11 := k3.msg.cell' hm.f11
  have fin : ∀ b, (b = true ↔ ¬ s.same ix lt tot) → Ends (k35 b h3) (.tup (told (addT (rst s ix lt tot) at' d))) fun h' => (∃ c', (c' = c ∨ M ≤ c') ∧ InAt lo c' X h' (addT (rst s ix lt tot) at' d)) ∧ Ef c X h h' := by
    intro b hbs
    rw [hk35]
    refine Ends.lett fun k37 hk37 => ?_
    have tail : ∀ h4 s2, s2.ok → Mid lo c X M m h h4 s2 → Ends (k37 h4) (.tup (told (addT s2 at' d))) fun h' => (∃ c', (c' = c ∨ M ≤ c') ∧ InAt lo c' X h' (addT s2 at' d)) ∧ Ef c X h h' := by
      intro h4 s2 ho2 km
      obtain ⟨⟨cv, kX, cvv⟩, kM, ef, hl4, hx4⟩ := km
      have w2 := kX.cell' (o := 2) (v := .int .i64 s2.tot) rfl
      have w3 := kX.cell' (o := 3) (v := cv) rfl
      have q10 := kM.cell' hm.f10
      have q12 := kM.cell' hm.f12
      rw [hk37]
      refine Ends.lett fun k41 hk41 => ?_
      have fin2 : ∀ b, (b = true ↔ s2.fits at' d) → Ends (k41 b h4) (.tup (told (addT s2 at' d))) fun h' => (∃ c', (c' = c ∨ M ≤ c') ∧ InAt lo c' X h' (addT s2 at' d)) ∧ Ef c X h h' := by
        intro b hbs
        rw [hk41]
        refine Ends.lett fun k43 hk43 => ?_
        have endp : ∀ h5 s3 c', (c' = c ∨ M ≤ c') → InAt lo c' X h5 s3 → Ef c X h h5 → Ends (k43 h5) (.tup (told s3)) fun h' => (∃ c', (c' = c ∨ M ≤ c') ∧ InAt lo c' X h' s3) ∧ Ef c X h h' := by
          intro h5 s3 c' hcc hin ef5
          have hin0 := hin
          obtain ⟨cv3, kX3, cvv3⟩ := hin
          have v2 := kX3.cell' (o := 2) (v := .int .i64 s3.tot) rfl
          have v3 := kX3.cell' (o := 3) (v := cv3) rfl
          have hre : reLoad Try.prog h5 3 (.ptr X 2) (.int .i64 s3.tot) = true := reLoad_c agg3 v2
          rw [hk43]
          simp only [nilC_p, fldP_p, Nat.zero_add, obind_val, v2, v3, avInt_int, cvv3.len, cvv3.conv, outK_val, avStr_str, hre, Bool.and_self, chk_true]
          rw [lett_eq]
          unfold told
          by_cases hc : (s3.t.length : Int) < s3.tot
          · rw [if_pos hc, decide_eq_true hc, ifB_true]
            exact ⟨h5, rfl, ⟨c', hcc, hin0⟩, ef5⟩
          · rw [if_neg hc, decide_eq_false hc, ifB_false]
            exact ⟨h5, rfl, ⟨c', hcc, hin0⟩, ef5⟩
        cases b with
        | false =>
          rw [ifB_false]
          have : addT s2 at' d = s2 := by unfold addT; rw [if_neg (fun hf => by simpa using hbs.2 hf)]
          rw [this]
          exact endp h4 s2 c (.inl rfl) ⟨cv, kX, cvv⟩ ef
        | true =>
          have hf := hbs.1 rfl
          have e1 : addT s2 at' d = ⟨s2.ix, s2.lt, s2.tot, s2.t ++ d⟩ := by unfold addT; rw [if_pos hf]
          obtain ⟨v', h5, c', a1, a2, a3, a4, a5, a6⟩ := cvv.append (d := d) hl4 hx4 (by
            unfold St.fits at hf
            unfold St.ok at ho2
            omega)
          have hcc0 : lo ≤ h4.next := hl4
          have hXn : X < h4.next := by omega
          have kX5 : RowH h5 X 98 (inC s2 cv) := kX.same (a6 X hXn hXc)
          have hcx : X ≠ c' := by omega
          obtain ⟨h6, r1, r2, r3, r4, r5⟩ := kX5.st1 (o := 3) (v := v') (by simp [inC]) a2.one
          simp only [nilC_p, fldP_p, Nat.zero_add, obind_val, w3, e12, q12, avStr_str, a1, outK_val, a2.cells, r1, ifB_true]
          rw [e1]
          exact endp h6 _ c' (by have := ef.next; omega) ⟨v', r2, a2.keep (by omega) fun _ _ => r5 c' (Ne.symm hcx)⟩ ⟨by have := ef.next; omega, r4.trans (a5.trans ef.ex), fun i hi hx hc => ((r5 i hx).trans (a6 i (by have := ef.next; omega) hc)).trans (ef.get i hi hx hc)⟩
      simp only [nilC_p, fldP_p, Nat.zero_add, obind_val, w2, w3, e10, e12, q10, q12, avInt_int, avStr_str, cvv.len]
      rw [lett_eq]
      by_cases e1 : at' = (s2.t.length : Int)
      · rw [beq_t e1, ifB_true, lett_eq, lett_eq, lenS_nat]
        have ew : IntKind.i64.wrap (s2.tot - (s2.t.length : Int)) = s2.tot - s2.t.length := by
          unfold St.ok at ho2
          exact wrap_i64 (by omega) (by omega)
        rw [ew]
        refine fin2 _ ?_
        unfold St.fits
        rw [decide_eq_true_iff]
        exact ⟨fun h => ⟨e1, h⟩, fun h => h.2⟩
      · rw [beq_f e1, ifB_false]
        refine fin2 false ?_
        unfold St.fits
        exact ⟨fun h => (by cases h), fun h => absurd h.1 e1⟩
    cases b with
    | false =>
      rw [ifB_false]
      have : rst s ix lt tot = s := by
        unfold rst
        rw [if_pos (Classical.byContradiction fun hn => by simpa using hbs.2 hn)]
      rw [this]
      exact tail h3 s hs k3
    | true =>
      have e1 : rst s ix lt tot = ⟨ix, lt, tot, []⟩ := by unfold rst; rw [if_neg (hbs.1 rfl)]
      rw [e1] at hro ⊢
      obtain ⟨⟨cv, kX, cvv⟩, kM, ef, hl4, hx4⟩ := k3
      obtain ⟨h4, r1, r2, r3, r4, r5⟩ := kX.stAll (n := 4) (vs := [.int .i64 ix, .int .i64 lt, .int .i64 tot, .nsl]) rfl rfl rfl
      have l2 := p2.ldAll (n := 2) rfl
      simp only [nilC_p, obind_val, l2, e11, d11, avInt_int, bld98, r1, ifB_true]
      exact tail h4 _ hro ⟨⟨.nsl, r2, .inl ⟨rfl, rfl⟩⟩, kM.same (r5 M hMX), ef.st r3 r4 r5 (.inl rfl), by omega, by rw [r4]; exact hx4⟩
  have l2 := p2.ldAll (n := 2) rfl
  have l3 : ldRow h3 2 (.ptr X 0) = some [.int .i64 s.ix, .int .i64 s.lt] := by
    obtain ⟨⟨cv, kX, cvv⟩, _⟩ := k3
    exact kX.ld (o := 0) (n := 2) (by simp [inC])
  have z2 : ldCell h3 (.ptr X 2) = some (.int .i64 s.tot) := by
    obtain ⟨⟨cv, kX, cvv⟩, _⟩ := k3
    exact kX.cell' (o := 2) rfl
  simp only [nilC_p, fldP_p, Nat.zero_add, Nat.add_zero, obind_val, l2, l3, eq39, e11, d11, z2, avInt_int]
  rw [lett_eq]
  by_cases e1 : ix = s.ix ∧ lt = s.lt
  · rw [beq_t e1.1, beq_t e1.2, Bool.and_self, Bool.not_true, ifB_false, lett_eq]
    refine fin _ ?_
    unfold St.same
    rw [bne_iff_ne]
    exact ⟨fun h1 h2 => h1 h2.2.2, fun h1 h2 => h1 ⟨e1.1, e1.2, h2⟩⟩
  · have : (ix == s.ix && lt == s.lt) = false := by
      rw [Bool.eq_false_iff]
      intro hh
      rw [Bool.and_eq_true, beq_iff_eq, beq_iff_eq] at hh
      exact e1 hh
    rw [this, Bool.not_false, ifB_true]
    exact fin true ⟨fun _ h => e1 ⟨h.1, h.2.1⟩, fun _ => rfl⟩
end
end Go.Proofs.Ytpnccmlajhhpdaa
