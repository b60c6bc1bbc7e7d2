/- What comes in: plain data, as rows that may be read alone. -/
import Derived.Test.YtpnccmlajhhpdaaAbs30
import Derived.ChangeArms
import Derived.OpenShut
import Derived.WideShapes
namespace Go.Proofs.Ytpnccmlajhhpdaa.Abs
noncomputable section
open Go.RowKit Go.WideShapes

/-- nothing that was there has turned -/
def Keeps (h h' : AHeap) : Prop := h.next ≤ h'.next ∧ h'.ex = h.ex ∧ ∀ b o, h.get b = some o → h'.get b = some o
theorem Keeps.refl (h : AHeap) : Keeps h h := ⟨Nat.le_refl _, rfl, fun _ _ k => k⟩
theorem Keeps.trans {a b c : AHeap} (h : Keeps a b) (k : Keeps b c) : Keeps a c := ⟨Nat.le_trans h.1 k.1, k.2.1.trans h.2.1, fun i o x => k.2.2 i o (h.2.2 i o x)⟩
def RoOnly (h : AHeap) : Prop := ∀ b o, h.get b = some o → o.alive = false

def consec (P : Program) : List Field → Nat → Option Nat
  | [], o => some o
  | f :: fs, o => match Nat.beq f.offset o with
    | true => consec P fs (o + P.cellsOf f.type)
    | false => none
/-- a type without pointers, maps, functions, interfaces -/
def plainT (P : Program) : Nat → TypeId → Bool
  | 0, _ => false
  | n + 1, t => match P.underlying t with
    | some .bool => Nat.beq (P.cellsOf t) 1
    | some (.int _) => Nat.beq (P.cellsOf t) 1
    | some .string => Nat.beq (P.cellsOf t) 1
    | some (.struct fs) => (match consec P fs.toList 0 with
      | some z => Nat.beq z (P.cellsOf t)
      | none => false) && fs.toList.all (fun f => plainT P n f.type)
    | some (.array k e) => Nat.beq (k * P.cellsOf e) (P.cellsOf t) && plainT P n e
    | some (.slice e) => Nat.beq (P.cellsOf t) 1 && Nat.blt 0 (P.cellsOf e) && plainT P n e
    | _ => false

/-- a row with these cells, whoever owns it -/
def RowLike (h : AHeap) (b : Nat) (l : List AV) : Prop := ∃ t, (h.get b = some (.ro t) ∨ ∃ n e, h.get b = some (.row n t e)) ∧ ∀ i, i < l.length → t.get i = l[i]?
theorem RowLike.same {h h' : AHeap} {b : Nat} {l : List AV} (k : RowLike h b l) (hk : ∀ o, h.get b = some o → h'.get b = some o) : RowLike h' b l := by
  obtain ⟨t, h1, h2⟩ := k
  rcases h1 with h1 | ⟨n, e, h1⟩
  · exact ⟨t, .inl (hk _ h1), h2⟩
  · exact ⟨t, .inr ⟨n, e, hk _ h1⟩, h2⟩
/-- a slice that is only read: its elements' cells -/
def Slc (N : Nat) (h : AHeap) (sz : Nat) (x : AV) (ls : List (List AV)) : Prop :=
  (∀ l ∈ ls, l.length = sz) ∧ ((ls = [] ∧ (x = .nsl ∨ x = .esl)) ∨ ∃ b, ls ≠ [] ∧ b < N ∧ x = .sl b 0 ls.length sz ∧ RowLike h b ls.flatten)
/-- what a value of a plain type is -/
def Plain (P : Program) (N : Nat) (h : AHeap) : Nat → TypeId → List AV → Prop
  | 0, _, _ => False
  | n + 1, t, l => match P.underlying t with
    | some .bool => ∃ b, l = [.bool b]
    | some (.int k) => ∃ z, l = [.int k z] ∧ (Lit.int k z).wf = true
    | some .string => ∃ s : Bytes, l = [strA s] ∧ s.length ≤ reachBytes
    | some (.struct fs) => ∃ ls : List (List AV), l = ls.flatten ∧ ls.length = fs.size ∧ ∀ (i : Nat) f li, fs[i]? = some f → ls[i]? = some li → Plain P N h n f.type li
    | some (.array k e) => ∃ ls : List (List AV), l = ls.flatten ∧ ls.length = k ∧ ∀ li ∈ ls, Plain P N h n e li
    | some (.slice e) => ∃ (x : AV) (ls : List (List AV)), l = [x] ∧ Slc N h (P.cellsOf e) x ls ∧ ls.length * P.bytesOf e ≤ reachBytes ∧ ∀ li ∈ ls, Plain P N h n e li
    | _ => False
theorem Slc.keep {N N' : Nat} {h h' : AHeap} {sz : Nat} {x : AV} {ls : List (List AV)} (hs : Slc N h sz x ls) (hN : N ≤ N') (hk : ∀ b o, b < N → h.get b = some o → h'.get b = some o) : Slc N' h' sz x ls := by
  obtain ⟨h0, h1⟩ := hs
  refine ⟨h0, ?_⟩
  rcases h1 with h1 | ⟨b, h1, h2, h3, h4⟩
  · exact .inl h1
  · exact .inr ⟨b, h1, Nat.lt_of_lt_of_le h2 hN, h3, h4.same fun o ho => hk _ _ h2 ho⟩
theorem Plain.keep {P : Program} {N N' : Nat} {h h' : AHeap} (hN : N ≤ N') (hk : ∀ b o, b < N → h.get b = some o → h'.get b = some o) : ∀ (n : Nat) (t : TypeId) (l : List AV), Plain P N h n t l → Plain P N' h' n t l
  | 0, _, _, hp => hp
  | n + 1, t, l, hp => by
    simp only [Plain] at hp ⊢
    split at hp
    · exact hp
    · exact hp
    · exact hp
    · obtain ⟨ls, h1, h2, h3⟩ := hp
      exact ⟨ls, h1, h2, fun i f li a b => Plain.keep hN hk n _ _ (h3 i f li a b)⟩
    · obtain ⟨ls, h1, h2, h3⟩ := hp
      exact ⟨ls, h1, h2, fun li a => Plain.keep hN hk n _ _ (h3 li a)⟩
    · obtain ⟨x, ls, h1, h2, h3, h4⟩ := hp
      exact ⟨x, ls, h1, h2.keep hN hk, h3, fun li a => Plain.keep hN hk n _ _ (h4 li a)⟩
    · exact hp

theorem list_of' {α : Type} {Q : Nat → α → Prop} : ∀ n, (∀ i, i < n → ∃ x, Q i x) → ∃ l : List α, l.length = n ∧ ∀ i x, l[i]? = some x → Q i x
  | 0, _ => ⟨[], rfl, fun i x h => by simp at h⟩
  | n + 1, h => by
    obtain ⟨l, hl, hq⟩ := list_of' n (fun i hi => h i (by omega))
    obtain ⟨x, hx⟩ := h n (by omega)
    refine ⟨l ++ [x], by simp [hl], fun i y hi => ?_⟩
    by_cases hin : i < n
    · rw [List.getElem?_append_left (by omega)] at hi; exact hq i y hi
    · have hlt := (List.getElem?_eq_some_iff.1 hi).1
      have : i = n := by simp at hlt; omega
      subst this
      rw [List.getElem?_append_right (by omega)] at hi
      simp [hl] at hi
      exact hi ▸ hx

theorem flat_consec {P : Program} {cs : List Value} : ∀ (fl : List Field) (o : Nat), consec P fl o = some cs.length → (fl.map fun f => (f.type, (cs.drop f.offset).take (P.cellsOf f.type))).flatMap (·.2) = cs.drop o
  | [], o, h => by
    simp only [consec, Option.some.injEq] at h
    subst h
    simp
  | f :: fl, o, h => by
    unfold consec at h
    split at h
    · rename_i e
      have e := Nat.eq_of_beq_eq_true e
      rw [List.map_cons, List.flatMap_cons, flat_consec fl _ h, e, ← List.drop_drop]
      exact List.take_append_drop _ _
    · cases h
theorem flat_range {cs : List Value} {e : TypeId} {sz : Nat} : ∀ (k : Nat), ((List.range k).map fun i => (e, (cs.drop (i * sz)).take sz)).flatMap (·.2) = cs.take (k * sz)
  | 0 => by simp
  | k + 1 => by
    rw [List.range_succ, List.map_append, List.flatMap_append, flat_range k]
    simp only [List.map_cons, List.map_nil, List.flatMap_cons, List.flatMap_nil, List.append_nil]
    rw [Nat.add_mul, Nat.one_mul, List.take_add]
theorem cells_flat {W : World} {g sz : Nat} : ∀ (L : List (List Value)) (o : Nat), (∀ j cj, L[j]? = some cj → cj.length = sz ∧ ∀ (k : Nat) c, cj[k]? = some c → W.cell? ⟨g, o + j * sz + k, none⟩ = some c) → ∀ i y, L.flatten[i]? = some y → W.cell? ⟨g, o + i, none⟩ = some y
  | [], _, _, i, y, h => by simp at h
  | c :: L, o, hq, i, y, h => by
    obtain ⟨h1, h2⟩ := hq 0 c rfl
    rw [List.flatten_cons] at h
    by_cases hi : i < c.length
    · rw [List.getElem?_append_left hi] at h
      have := h2 i y h
      rw [Nat.zero_mul, Nat.add_zero] at this
      exact this
    · rw [List.getElem?_append_right (by omega)] at h
      have := cells_flat L (o + sz) (fun j cj hj => by
        obtain ⟨a, b⟩ := hq (j + 1) cj (by simpa using hj)
        refine ⟨a, fun k c' hc => ?_⟩
        have := b k c' hc
        rw [Nat.add_mul, Nat.one_mul] at this
        rw [show o + sz + j * sz + k = o + (j * sz + sz) + k by omega]
        exact this) (i - c.length) y h
      rw [show o + i = o + sz + (i - c.length) by omega]
      exact this

section
variable {H : Type} {enc : TypeId × Value → H} {P : Program} {W : World}
theorem weightsAll_mem' {e : TypeId} {l : List (DataW H)} {d : DataW H} (hd : d ∈ l) {n : Nat} (hn : n ∈ d.weights P e) : n ∈ DataW.weightsAll P e l := by
  induction l with
  | nil => cases hd
  | cons x l ih =>
    show n ∈ x.weights P e ++ DataW.weightsAll P e l
    rcases List.mem_cons.1 hd with rfl | h
    · exact List.mem_append_left _ hn
    · exact List.mem_append_right _ (ih h)

/-- it is there, and may be opened -/
def Opens (enc : TypeId × Value → H) (P : Program) (W : World) (n : Nat) (t : TypeId) (cs : List Value) : Prop :=
  plainT P n t = true ∧ ∃ fuel d p, DataW.trod enc P W 0 (fun _ => true) true fuel t cs = some (d, p) ∧ (∀ x ∈ p, x.block < W.heap.size) ∧ ∀ k ∈ d.weights P t, k ≤ reachBytes
def Opened (P : Program) (W : World) (n : Nat) (t : TypeId) (cs : List Value) : Prop :=
  ∀ m h, Fits W m h W → RoOnly h → ∃ (m' : Map) (h' : AHeap) (l : List AV), Ext m m' ∧ Keeps h h' ∧ Fits W m' h' W ∧ RoOnly h' ∧ RelL m' l cs ∧ l.all AV.one = true ∧ l.length = P.cellsOf t ∧ Plain P h'.next h' n t l
theorem open_list {n : Nat} (ih : ∀ t cs, Opens enc P W n t cs → Opened P W n t cs) : ∀ (ps : List (TypeId × List Value)), (∀ q ∈ ps, Opens enc P W n q.1 q.2) → ∀ m h, Fits W m h W → RoOnly h →
    ∃ (m' : Map) (h' : AHeap) (ls : List (List AV)), Ext m m' ∧ Keeps h h' ∧ Fits W m' h' W ∧ RoOnly h' ∧ RelL m' ls.flatten (ps.flatMap (·.2)) ∧ ls.flatten.all AV.one = true ∧ ls.length = ps.length ∧
      ∀ (i : Nat) q li, ps[i]? = some q → ls[i]? = some li → Plain P h'.next h' n q.1 li ∧ li.length = P.cellsOf q.1
  | [], _, m, h, F, hro => ⟨m, h, [], Ext.refl m, Keeps.refl h, F, hro, .nil, rfl, rfl, fun i q li a => by simp at a⟩
  | q :: ps, ho, m, h, F, hro => by
    obtain ⟨m1, h1, l, x1, k1, F1, r1, a1, a2, a3, a4⟩ := ih q.1 q.2 (ho q (List.mem_cons_self ..)) m h F hro
    obtain ⟨m2, h2, ls, x2, k2, F2, r2, b1, b2, b3, b4⟩ := open_list ih ps (fun q' hq => ho q' (List.mem_cons_of_mem _ hq)) m1 h1 F1 r1
    refine ⟨m2, h2, l :: ls, x1.trans x2, k1.trans k2, F2, r2, ?_, ?_, by simp [b3], fun i q' li hi hl => ?_⟩
    · rw [List.flatten_cons, List.flatMap_cons]
      exact (a1.mono x2.le).append b1
    · rw [List.flatten_cons, List.all_append, a2, b2]; rfl
    · cases i with
      | zero =>
        simp at hi hl
        subst hi; subst hl
        exact ⟨a4.keep k2.1 (fun b o _ hb => k2.2.2 b o hb), a3⟩
      | succ i => exact b4 i q' li (by simpa using hi) (by simpa using hl)
theorem roOnly_new {h : AHeap} (hr : RoOnly h) (t : T AV) : RoOnly (h.new (.ro t)) := by
  intro b o hb
  by_cases e : h.next = b
  · subst e
    rw [get_new_same] at hb
    cases hb
    rfl
  · rw [get_new_other _ e] at hb
    exact hr b o hb
theorem put_get (l : List AV) (i : Nat) : (T.put .e 0 l : T AV).get i = l[i]? := rowOf_get l i
theorem keeps_new {m : Map} {h : AHeap} (F : Fits W m h W) (o : AObj) : Keeps h (h.new o) := ⟨Nat.le_succ _, rfl, fun b x hb => by
  have := F.lt_next hb
  rw [get_new_other _ (by omega)]
  exact hb⟩
theorem len_flat {P : Program} {t : TypeId} {fs : List Field} : ∀ (fl : List Field) (o z : Nat) (ls : List (List AV)), consec P fl o = some z → ls.length = fl.length → (∀ (i : Nat) f li, fl[i]? = some f → ls[i]? = some li → li.length = P.cellsOf f.type) → o + ls.flatten.length = z
  | [], o, z, ls, h, hl, _ => by
    simp only [consec, Option.some.injEq] at h
    have : ls = [] := List.eq_nil_of_length_eq_zero hl
    subst this
    simpa using h
  | f :: fl, o, z, ls, h, hl, hq => by
    unfold consec at h
    split at h
    · cases ls with
      | nil => simp at hl
      | cons l ls =>
        have h1 := hq 0 f l rfl rfl
        have h2 := len_flat (t := t) (fs := fs) fl _ z ls h (by simpa using hl) (fun i f li a b => hq (i + 1) f li (by simpa using a) (by simpa using b))
        rw [List.flatten_cons, List.length_append, h1]
        omega
    · cases h
theorem len_same {sz : Nat} : ∀ (ls : List (List AV)), (∀ l ∈ ls, l.length = sz) → ls.flatten.length = ls.length * sz
  | [], _ => by simp
  | l :: ls, h => by
    rw [List.flatten_cons, List.length_append, h l (List.mem_cons_self ..), len_same ls (fun x hx => h x (List.mem_cons_of_mem _ hx)), List.length_cons, Nat.add_mul]
    omega
theorem open_plain : ∀ (n : Nat) (t : TypeId) (cs : List Value), Opens enc P W n t cs → Opened P W n t cs
  | 0, _, _, ho => by cases ho.1
  | n + 1, t, cs, ⟨hp, fuel, d, p, htr, hpl, hwt⟩ => by
    intro m h F hro
    have ih := open_plain n
    simp only [plainT] at hp
    split at hp
    · rename_i hu
      have hc := Nat.eq_of_beq_eq_true hp
      obtain ⟨b, rfl, _⟩ := DataW.trod_bool hu htr
      exact ⟨m, h, [.bool b], Ext.refl m, Keeps.refl h, F, hro, .cons (.bool b) .nil, rfl, by rw [hc]; rfl, by simp only [Plain, hu]; exact ⟨b, rfl⟩⟩
    · rename_i k hu
      have hc := Nat.eq_of_beq_eq_true hp
      obtain ⟨z, rfl, _, hz⟩ := DataW.trod_int hu htr
      exact ⟨m, h, [.int k z], Ext.refl m, Keeps.refl h, F, hro, .cons (.int k z) .nil, rfl, by rw [hc]; rfl, by simp only [Plain, hu]; exact ⟨z, rfl, hz⟩⟩
    · rename_i hu
      have hc := Nat.eq_of_beq_eq_true hp
      obtain ⟨s, rfl, hx, _⟩ := DataW.trod_string hu htr
      simp only [Prod.mk.injEq] at hx
      obtain ⟨rfl, rfl⟩ := hx
      exact ⟨m, h, [strA s.data.toList], Ext.refl m, Keeps.refl h, F, hro, .cons (rel_str m s) .nil, rfl, by rw [hc]; rfl, by simp only [Plain, hu]; exact ⟨s.data.toList, rfl, hwt _ (by simp [DataW.weights])⟩⟩
    · rename_i fs hu
      rw [Bool.and_eq_true] at hp
      obtain ⟨hp1, hp2⟩ := hp
      obtain ⟨xs, fn, _, hx, hlen, hxl, hf⟩ := DataW.trod_struct hu htr
      simp only [Prod.mk.injEq] at hx
      obtain ⟨rfl, rfl⟩ := hx
      have hcz : consec P fs.toList 0 = some (P.cellsOf t) := by
        split at hp1
        · rename_i z hz
          rw [hz, Nat.eq_of_beq_eq_true hp1]
        · cases hp1
      have hps : ∀ q ∈ fs.toList.map (fun f => (f.type, (cs.drop f.offset).take (P.cellsOf f.type))), Opens enc P W n q.1 q.2 := by
        intro q hq
        obtain ⟨f, hfm, rfl⟩ := List.mem_map.1 hq
        obtain ⟨i, hi, hif⟩ := List.getElem_of_mem hfm
        have hif2 : fs[i]? = some f := by rw [← hif]; simp at hi ⊢
        have hfi := hf i f hif2
        have hix : i < xs.length := by rw [hxl]; simpa using hi
        rw [List.getElem?_eq_getElem hix] at hfi
        refine ⟨List.all_eq_true.1 hp2 f hfm, fn, xs[i].1, xs[i].2, hfi, fun x hx => hpl x (List.mem_flatMap.2 ⟨xs[i], List.getElem_mem _, hx⟩), fun k hk => hwt k ?_⟩
        simp only [DataW.weights, hu]
        exact DataW.weights_mem_each (j := i) (t := f.type) (d := xs[i].1) (by simp [hif2]) (by simp [List.getElem?_eq_getElem hix]) k hk
      obtain ⟨m', h', ls, x1, k1, F1, r1, a1, a2, a3, a4⟩ := open_list ih _ hps m h F hro
      rw [flat_consec _ _ (by rw [hlen]; exact hcz), List.drop_zero] at a1
      have a3' : ls.length = fs.size := by simpa using a3
      refine ⟨m', h', ls.flatten, x1, k1, F1, r1, a1, a2, by rw [a1.length, hlen], ?_⟩
      simp only [Plain, hu]
      exact ⟨ls, rfl, a3', fun i f li hi hl => (a4 i (f.type, (cs.drop f.offset).take (P.cellsOf f.type)) li (by rw [List.getElem?_map]; simp [hi]) hl).1⟩
    · rename_i k e hu
      rw [Bool.and_eq_true] at hp
      obtain ⟨hp1, hp2⟩ := hp
      have hsz := Nat.eq_of_beq_eq_true hp1
      obtain ⟨xs, fn, _, hx, hlen, hxl, hf⟩ := DataW.trod_array hu htr
      simp only [Prod.mk.injEq] at hx
      obtain ⟨rfl, rfl⟩ := hx
      have hps : ∀ q ∈ (List.range k).map (fun i => (e, (cs.drop (i * P.cellsOf e)).take (P.cellsOf e))), Opens enc P W n q.1 q.2 := by
        intro q hq
        obtain ⟨i, hi, rfl⟩ := List.mem_map.1 hq
        have hik : i < k := List.mem_range.1 hi
        have hfi := hf i hik
        have hix : i < xs.length := by omega
        rw [List.getElem?_eq_getElem hix] at hfi
        refine ⟨hp2, fn, xs[i].1, xs[i].2, hfi, fun x hx => hpl x (List.mem_flatMap.2 ⟨xs[i], List.getElem_mem _, hx⟩), fun j hj => hwt j ?_⟩
        simp only [DataW.weights, hu]
        exact weightsAll_mem' (List.mem_map.2 ⟨xs[i], List.getElem_mem _, rfl⟩) hj
      obtain ⟨m', h', ls, x1, k1, F1, r1, a1, a2, a3, a4⟩ := open_list ih _ hps m h F hro
      rw [flat_range, hsz, ← hlen, List.take_length] at a1
      have a3' : ls.length = k := by simpa using a3
      refine ⟨m', h', ls.flatten, x1, k1, F1, r1, a1, a2, by rw [a1.length, hlen], ?_⟩
      simp only [Plain, hu]
      refine ⟨ls, rfl, a3', fun li hl => ?_⟩
      obtain ⟨i, hi, rfl⟩ := List.getElem_of_mem hl
      exact (a4 i (e, (cs.drop (i * P.cellsOf e)).take (P.cellsOf e)) ls[i] (by simp [List.getElem?_range (show i < k by omega)]) (List.getElem?_eq_getElem hi)).1
    · rename_i e hu
      simp only [Bool.and_eq_true] at hp
      obtain ⟨⟨hp0, hp1⟩, hp2⟩ := hp
      have hc := Nat.eq_of_beq_eq_true hp0
      have hpos : 0 < P.cellsOf e := Nat.le_of_ble_eq_true hp1
      rcases DataW.trod_slice hu htr with ⟨rfl, _⟩ | ⟨a, len, cap, elems, rest, fn, _, rfl, hx, _, hlc, hcm, hel, hee, _, _⟩
      · exact ⟨m, h, [.nsl], Ext.refl m, Keeps.refl h, F, hro, .cons .nsl .nil, rfl, by rw [hc]; rfl, by
          simp only [Plain, hu]
          exact ⟨.nsl, [], rfl, ⟨by simp, .inl ⟨rfl, .inl rfl⟩⟩, by simp, by simp⟩⟩
      simp only [Prod.mk.injEq] at hx
      obtain ⟨rfl, rfl⟩ := hx
      by_cases h0 : len = 0
      · subst h0
        exact ⟨m, h, [.esl], Ext.refl m, Keeps.refl h, F, hro, .cons (.esl a cap) .nil, rfl, by rw [hc]; rfl, by
          simp only [Plain, hu]
          exact ⟨.esl, [], rfl, ⟨by simp, .inl ⟨rfl, .inr rfl⟩⟩, by simp, by simp⟩⟩
      obtain ⟨L, hL, hLq⟩ := list_of' (α := List Value) (Q := fun i c => i < len ∧ W.cells? 0 (a.add (i * P.cellsOf e)) (P.cellsOf e) = some c ∧ DataW.trod enc P W 0 (fun _ => true) true fn e c = elems[i]?) len (fun i hi => by
        have h1 := hee i hi
        have hix : i < elems.length := by omega
        rw [List.getElem?_eq_getElem hix] at h1
        obtain ⟨c, hc1, hc2⟩ := Option.bind_eq_some_iff.1 h1
        exact ⟨c, hi, hc1, by rw [List.getElem?_eq_getElem hix]; exact hc2⟩)
      have hps : ∀ q ∈ L.map (fun c => (e, c)), Opens enc P W n q.1 q.2 := by
        intro q hq
        obtain ⟨c, hcm2, rfl⟩ := List.mem_map.1 hq
        obtain ⟨i, hi, rfl⟩ := List.getElem_of_mem hcm2
        obtain ⟨hil, _, h3⟩ := hLq i L[i] (List.getElem?_eq_getElem hi)
        have hix : i < elems.length := by omega
        rw [List.getElem?_eq_getElem hix] at h3
        refine ⟨hp2, fn, elems[i].1, elems[i].2, h3, fun x hx => hpl x (List.mem_append_right _ (List.mem_flatMap.2 ⟨elems[i], List.mem_append_left _ (List.getElem_mem _), hx⟩)), fun k hk => hwt k ?_⟩
        simp only [DataW.weights, hu]
        exact List.mem_cons_of_mem _ (List.mem_append_left _ (weightsAll_mem' (List.mem_map.2 ⟨elems[i], List.getElem_mem _, rfl⟩) hk))
      obtain ⟨m1, h1, ls, x1, k1, F1, r1, a1, a2, a3, a4⟩ := open_list ih _ hps m h F hro
      have a3' : ls.length = len := by simpa [hL] using a3
      have hflat : (L.map (fun c => (e, c))).flatMap (·.2) = L.flatten := by
        rw [List.flatMap_map]
        simp [List.flatMap_def]
      rw [hflat] at a1
      obtain ⟨g, off, spot⟩ := a
      have hspot : spot = none := by
        have hL0 : L[0]? = some L[0] := List.getElem?_eq_getElem (by omega)
        obtain ⟨_, h2, _⟩ := hLq 0 L[0] hL0
        obtain ⟨_, hl2, hcell⟩ := World.cells?_some h2
        have := hcell 0 hpos
        rw [List.getElem?_eq_getElem (by omega)] at this
        simpa [Addr.add] using World.cell?_spot this
      subst hspot
      have hcellL : ∀ (j : Nat) cj, L[j]? = some cj → cj.length = P.cellsOf e ∧ ∀ (k : Nat) c, cj[k]? = some c → W.cell? ⟨g, off + j * P.cellsOf e + k, none⟩ = some c := by
        intro j cj hj
        obtain ⟨_, h2, _⟩ := hLq j cj hj
        obtain ⟨_, hl2, hcell⟩ := World.cells?_some h2
        refine ⟨hl2, fun k c hk => ?_⟩
        have hk2 : k < P.cellsOf e := by have := (List.getElem?_eq_some_iff.1 hk).1; omega
        have := hcell k hk2
        rw [add_plain, add_plain, hk] at this
        exact this
      have hg : g < W.heap.size := hpl (.cell g off) (List.mem_append_left _ (MemPlace.mem_row.2 ⟨0, Nat.mul_pos (by omega) hpos, by simp⟩))
      have hli : ∀ l ∈ ls, l.length = P.cellsOf e := by
        intro l hl
        obtain ⟨i, hi, rfl⟩ := List.getElem_of_mem hl
        exact (a4 i (e, L[i]'(by omega)) ls[i] (by simp [List.getElem?_eq_getElem (show i < L.length by omega)]) (List.getElem?_eq_getElem hi)).2
      have hne : ls ≠ [] := by rintro rfl; simp at a3'; omega
      have hroat : RoAt (m1 ++ [some (g, off, off + cap * P.cellsOf e)]) W g off (T.put .e 0 ls.flatten) := by
        refine ⟨hg, fun i x hx => ?_⟩
        rw [put_get] at hx
        obtain ⟨y, hy, hry⟩ := a1.get i x hx
        refine ⟨y, cells_flat L off hcellL i y hy, hry.mono (Map.le_append _ _), hry.one ?_⟩
        exact List.all_eq_true.1 a2 x (List.mem_of_getElem? hx)
      have F2 := Fits.new F1 (.ro (T.put .e 0 ls.flatten)) (g := g) (s := off) (z := off + cap * P.cellsOf e) (fun b o' s' z' hb ha => by rw [r1 b o' hb] at ha; cases ha)
        (fun n t e he => by cases he) (fun es he => by cases he) (fun n t e he => by cases he) (fun t he => by cases he; exact hroat) (hpin := fun k o' hk ha => by cases ha)
      refine ⟨_, _, [.sl h1.next 0 len (P.cellsOf e)], x1.trans (Ext.append m1 _), k1.trans (keeps_new F1 _), F2, roOnly_new r1 _, .cons ?_ .nil, rfl, by rw [hc]; rfl, ?_⟩
      · have hmm : (m1 ++ [some (g, off, off + cap * P.cellsOf e)])[h1.next]? = some (some (g, off, off + cap * P.cellsOf e)) := by
          rw [List.getElem?_append_right (by rw [F1.len]; exact Nat.le_refl _), F1.len, Nat.sub_self]
          rfl
        have := Rel.sl (m := m1 ++ [some (g, off, off + cap * P.cellsOf e)]) (b := h1.next) (o := 0) (n := len) (sz := P.cellsOf e) (cap := cap) hmm hlc (by omega)
        rw [Nat.add_zero] at this
        exact this
      · simp only [Plain, hu]
        refine ⟨_, ls, rfl, ⟨hli, .inr ⟨h1.next, hne, Nat.lt_succ_self _, by rw [a3'], ⟨_, .inl (get_new_same _), fun i _ => put_get _ i⟩⟩⟩, ?_, fun li hl => ?_⟩
        · have := hwt _ (by simp only [DataW.weights, hu]; exact List.mem_cons_self ..)
          refine Nat.le_trans (Nat.mul_le_mul_right _ ?_) this
          rw [List.length_map, a3', hel]
          omega
        · obtain ⟨i, hi, rfl⟩ := List.getElem_of_mem hl
          have hpi := (a4 i (e, L[i]'(by omega)) ls[i] (by simp [List.getElem?_eq_getElem (show i < L.length by omega)]) (List.getElem?_eq_getElem hi)).1
          exact hpi.keep (keeps_new F1 _).1 (fun b o _ hb => (keeps_new F1 _).2.2 b o hb)
    · cases hp
end
end
end Go.Proofs.Ytpnccmlajhhpdaa.Abs
