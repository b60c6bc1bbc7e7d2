/- What comes in: a call's arguments, and what is read of them. -/
import Derived.Test.YtpnccmlajhhpdaaAbs31
import Derived.ChangeShapes
import Derived.ChangeAt
namespace Go.Proofs.Ytpnccmlajhhpdaa.Abs
noncomputable section
open Go.RowKit Go.WideShapes Go.ChangeShapes

/-- what an argument of a plain type is -/
def ArgP (P : Program) (N : Nat) (h : AHeap) (n : Nat) (t : TypeId) (a : AV) : Prop := match aggO P t with
  | some true => ∃ l, a = .agg l ∧ Plain P N h n t l
  | _ => Plain P N h n t [a]
def ArgsP (P : Program) (N : Nat) (h : AHeap) (n : Nat) : List TypeId → List AV → Prop
  | [], [] => True
  | t :: ts, a :: as => ArgP P N h n t a ∧ ArgsP P N h n ts as
  | _, _ => False
theorem ArgP.keep {P : Program} {N N' : Nat} {h h' : AHeap} {n : Nat} {t : TypeId} {a : AV} (hp : ArgP P N h n t a) (hN : N ≤ N') (hk : ∀ b o, b < N → h.get b = some o → h'.get b = some o) : ArgP P N' h' n t a := by
  unfold ArgP at hp ⊢
  split at hp
  · obtain ⟨l, h1, h2⟩ := hp
    exact ⟨l, h1, h2.keep hN hk⟩
  · exact hp.keep hN hk
theorem rel_single {m : Map} {l : List AV} {v : Value} (h : RelL m l [v]) : ∃ x, l = [x] ∧ Rel m x v := by
  cases h with | cons a b =>
  cases b
  exact ⟨_, rfl, a⟩
section
variable {H : Type} {enc : TypeId × Value → H} {P : Program} {W : World}
theorem open_arg {n : Nat} {t : TypeId} {v : Value} {m : Map} {N : Nat} {h : AHeap} {l : List AV} (ht : plainT P n t = true) (hv : ∃ base, Value.okWide P W .any base t v) (hr : RelL m l v.cells.toList) (hp : Plain P N h n t l) : ∃ a, Rel m a v ∧ ArgP P N h n t a := by
  obtain ⟨base, hv⟩ := hv
  have hsingle : v.cells = #[v] → aggO P t = some false → ∃ a, Rel m a v ∧ ArgP P N h n t a := by
    intro h1 h2
    rw [h1] at hr
    obtain ⟨x, rfl, hx⟩ := rel_single hr
    refine ⟨x, hx, ?_⟩
    unfold ArgP
    rw [h2]
    exact hp
  have hagg : ∀ cs : Array Value, v = .agg cs → aggO P t = some true → ∃ a, Rel m a v ∧ ArgP P N h n t a := by
    intro cs h1 h2
    subst h1
    refine ⟨.agg l, .agg hr, ?_⟩
    unfold ArgP
    rw [h2]
    exact ⟨l, rfl, hp⟩
  cases n with
  | zero => cases ht
  | succ n =>
    simp only [plainT] at ht
    split at ht
    · rename_i hu
      obtain ⟨b, rfl⟩ := okWide_bool hu hv
      exact hsingle rfl (by simp [aggO, hu, isRowD])
    · rename_i hu
      obtain ⟨z, rfl⟩ := okWide_int hu hv
      exact hsingle rfl (by simp [aggO, hu, isRowD])
    · rename_i hu
      obtain ⟨z, rfl⟩ := okWide_string hu hv
      exact hsingle rfl (by simp [aggO, hu, isRowD])
    · rename_i hu
      obtain ⟨cs, h1, _⟩ := okWide_struct hu hv
      exact hagg cs h1 (by simp [aggO, hu, isRowD])
    · rename_i hu
      unfold Value.okWide at hv
      rw [hu] at hv
      obtain ⟨cs, h1, _⟩ := hv
      exact hagg cs h1 (by simp [aggO, hu, isRowD])
    · rename_i hu
      obtain ⟨a, len, cap, rfl⟩ := okWide_slice hu hv
      exact hsingle rfl (by simp [aggO, hu, isRowD])
    · cases ht
theorem open_each {n : Nat} : ∀ (ts : List TypeId) (vs : List Value) (ds : List (DataW H)) (p : List MemPlace), DataW.TrodAll enc P W 0 (fun _ => true) true ts vs ds p → (∀ x ∈ p, x.block < W.heap.size) → (∀ k ∈ DataW.weightsEach P ts ds, k ≤ reachBytes) →
    ts.all (plainT P n) = true → (∀ (i : Nat) t v, ts[i]? = some t → vs[i]? = some v → ∃ base, Value.okWide P W .any base t v) → ∀ m h, Fits W m h W → RoOnly h →
    ∃ (m' : Map) (h' : AHeap) (as : List AV), Ext m m' ∧ Keeps h h' ∧ Fits W m' h' W ∧ RoOnly h' ∧ RelL m' as vs ∧ ArgsP P h'.next h' n ts as
  | [], vs, ds, p, ht, _, _, _, _, m, h, F, hro => by
    cases vs with
    | nil => exact ⟨m, h, [], Ext.refl m, Keeps.refl h, F, hro, .nil, trivial⟩
    | cons v vs => cases ht
  | t :: ts, vs, ds, p, ht, hpl, hwt, hall, hval, m, h, F, hro => by
    obtain ⟨v, vs', d, ds', q, q', rfl, rfl, rfl, h0, hr⟩ := trodAll_cons ht
    rw [List.all_cons, Bool.and_eq_true] at hall
    obtain ⟨fuel, h0⟩ := h0
    have hw1 : ∀ k ∈ d.weights P t, k ≤ reachBytes := fun k hk => hwt k (by show k ∈ d.weights P t ++ DataW.weightsEach P ts ds'; exact List.mem_append_left _ hk)
    have hw2 : ∀ k ∈ DataW.weightsEach P ts ds', k ≤ reachBytes := fun k hk => hwt k (by show k ∈ d.weights P t ++ DataW.weightsEach P ts ds'; exact List.mem_append_right _ hk)
    obtain ⟨m1, h1, l, x1, k1, F1, r1, a1, _, _, a4⟩ := open_plain (enc := enc) n t v.cells.toList ⟨hall.1, fuel, d, q, h0, fun x hx => hpl x (List.mem_append_left _ hx), hw1⟩ m h F hro
    obtain ⟨a, hra, hpa⟩ := open_arg hall.1 (hval 0 t v rfl rfl) a1 a4
    obtain ⟨m2, h2, as, x2, k2, F2, r2, b1, b2⟩ := open_each ts vs' ds' q' hr (fun x hx => hpl x (List.mem_append_right _ hx)) hw2 hall.2 (fun i t' v' hi hv => hval (i + 1) t' v' (by simpa using hi) (by simpa using hv)) m1 h1 F1 r1
    exact ⟨m2, h2, a :: as, x1.trans x2, k1.trans k2, F2, r2, .cons (hra.mono x2.le) b1, hpa.keep k2.1 (fun b o _ hb => k2.2.2 b o hb), b2⟩
/-- WHAT COMES IN, opened: a memory of the small machine that holds it, and nothing else -/
theorem open_all {n : Nat} (X : List Nat) {ts : List TypeId} {vs : List Value} {ds : List (DataW H)} {p : List MemPlace} (ht : DataW.TrodAll enc P W 0 (fun _ => true) true ts vs ds p) (hpl : ∀ x ∈ p, x.block < W.heap.size) (hwt : (DataW.weightsEach P ts ds).all (· ≤ reachBytes) = true)
    (hall : ts.all (plainT P n) = true) (hval : ∀ (i : Nat) t v, ts[i]? = some t → vs[i]? = some v → ∃ base, Value.okWide P W .any base t v) :
    ∃ (m : Map) (h : AHeap) (as : List AV), Fits W m h W ∧ h.ex = X ∧ RelL m as vs ∧ ArgsP P h.next h n ts as := by
  obtain ⟨m, h, as, _, k, F, _, a, b⟩ := open_each (n := n) ts vs ds p ht hpl (fun k hk => by simpa using List.all_eq_true.1 hwt k hk) hall hval [] ⟨0, X, .e⟩ (fits_start W X) (fun b o hb => by
    have : (T.e : T AObj).get b = some o := hb
    rw [T.get_e] at this; cases this)
  exact ⟨m, h, as, F, k.2.1, a, b⟩
/-- it returns true, wherever what came in lies -/
theorem says_in {f : FuncId} {args : List AV} {args' : Array Value} {m : Map} {h h' : AHeap} (hs : Says P f args h (.ret (.bool true)) h') (F : Fits W m h W) (hr : RelL m args args'.toList) :
    Calls P f args' W fun e W' => e = .returned (.bool true) ∧ Below W.heap.size W W' := by
  refine Calls.mono (hs W m W args'.toList hr F) ?_
  rintro e W' ⟨m', _, F, v', rfl, hv⟩
  cases hv
  exact ⟨rfl, F.below⟩
end

/-! ### what is read of it -/
theorem map_of {α β : Type} {f : α → β} {Q : α → Prop} : ∀ (ls : List β), (∀ l ∈ ls, ∃ x, l = f x ∧ Q x) → ∃ xs : List α, ls = xs.map f ∧ ∀ x ∈ xs, Q x
  | [], _ => ⟨[], rfl, by simp⟩
  | l :: ls, h => by
    obtain ⟨x, h1, h2⟩ := h l (List.mem_cons_self ..)
    obtain ⟨xs, h3, h4⟩ := map_of ls (fun y hy => h y (List.mem_cons_of_mem _ hy))
    exact ⟨x :: xs, by rw [List.map_cons, ← h1, ← h3], fun y hy => by
      rcases List.mem_cons.1 hy with rfl | hy
      · exact h2
      · exact h4 y hy⟩
theorem flat_one {α β : Type} (f : α → β) : ∀ (vs : List α), (vs.map fun v => [f v]).flatten = vs.map f
  | [] => rfl
  | v :: vs => by rw [List.map_cons, List.flatten_cons, flat_one f vs]; rfl
theorem flat_part {sz : Nat} : ∀ (ls : List (List AV)) (i : Nat) (hi : i < ls.length), (∀ l ∈ ls, l.length = sz) → (ls.flatten.drop (i * sz)).take sz = ls[i]
  | [], i, hi, _ => by simp at hi
  | l :: ls, 0, _, h => by
    have := h l (List.mem_cons_self ..)
    rw [List.flatten_cons, Nat.zero_mul, List.drop_zero, List.take_append_of_le_length (by omega), ← this, List.take_length]
    rfl
  | l :: ls, i + 1, hi, h => by
    have := h l (List.mem_cons_self ..)
    rw [List.flatten_cons, Nat.add_mul, Nat.one_mul, Nat.add_comm, ← List.drop_drop, List.drop_append_of_le_length (by omega), ← this, List.drop_length, List.nil_append, this]
    exact flat_part ls i (by simpa using hi) (fun x hx => h x (List.mem_cons_of_mem _ hx))
section
variable {N : Nat} {h : AHeap} {sz : Nat} {x : AV} {ls : List (List AV)}
theorem Slc.len (hs : Slc N h sz x ls) : lenL x = some (ls.length : Int) := by
  rcases hs.2 with ⟨rfl, rfl | rfl⟩ | ⟨b, _, _, rfl, _⟩ <;> rfl
theorem Slc.at (hs : Slc N h sz x ls) {i : Nat} (hi : i < ls.length) : ∃ b, b < N ∧ idxP sz x (i : Int) = some (.ptr b (i * sz)) ∧ RowLike h b ls.flatten := by
  rcases hs.2 with ⟨rfl, _⟩ | ⟨b, _, hb, rfl, hg⟩
  · simp at hi
  · refine ⟨b, hb, ?_, hg⟩
    rw [idxP_sl hi, Nat.zero_add]
theorem take_like {t : T AV} {l : List AV} : ∀ (n o : Nat), (∀ i, o ≤ i → i < o + n → t.get i = l[i]?) → o + n ≤ l.length → t.take o n = some ((l.drop o).take n)
  | 0, o, _, _ => by simp [T.take]
  | n + 1, o, hq, ho => by
    have h1 : t.get o = some (l[o]'(by omega)) := by
      rw [hq o (by omega) (by omega)]; exact List.getElem?_eq_getElem (by omega)
    simp only [T.take, h1, take_like n (o + 1) (fun i a b => hq i (by omega) (by omega)) (by omega)]
    rw [List.drop_eq_getElem_cons (by omega : o < l.length), List.take_succ_cons]
theorem RowLike.part {b o n : Nat} {l : List AV} (k : RowLike h b l) (ho : o + n ≤ l.length) : rowGet h b o n = some ((l.drop o).take n) := by
  obtain ⟨t, h1, h2⟩ := k
  unfold rowGet
  rcases h1 with h1 | ⟨m, e, h1⟩ <;> rw [h1] <;> exact take_like n o (fun i _ hi => h2 i (by omega)) ho
theorem RowLike.cell {b o : Nat} {l : List AV} (k : RowLike h b l) (ho : o < l.length) : ldCell h (.ptr b o) = some l[o] := by
  obtain ⟨t, h1, h2⟩ := k
  show cellGet h b o = _
  unfold cellGet
  rcases h1 with h1 | ⟨m, e, h1⟩ <;> rw [h1] <;> exact (h2 o ho).trans (List.getElem?_eq_getElem ho)
theorem Slc.row (hs : Slc N h sz x ls) {i : Nat} (hi : i < ls.length) : ∃ b, b < N ∧ idxP sz x (i : Int) = some (.ptr b (i * sz)) ∧ ldRow h sz (.ptr b (i * sz)) = some ls[i] := by
  obtain ⟨b, h0, h1, h2⟩ := hs.at hi
  refine ⟨b, h0, h1, ?_⟩
  have hl := len_same ls hs.1
  have h3 : i * sz + sz ≤ ls.flatten.length := by
    rw [hl]
    have : (i + 1) * sz ≤ ls.length * sz := Nat.mul_le_mul_right _ hi
    rw [Nat.add_mul, Nat.one_mul] at this
    exact this
  show rowGet h b (i * sz) sz = _
  rw [h2.part h3, flat_part ls i hi hs.1]
theorem Slc.cell {α : Type} {f : α → AV} {vs : List α} (hs : Slc N h 1 x (vs.map fun v => [f v])) {i : Nat} (hi : i < vs.length) : ∃ b, b < N ∧ idxP 1 x (i : Int) = some (.ptr b i) ∧ ldCell h (.ptr b i) = some (f vs[i]) := by
  obtain ⟨b, h0, h1, h2⟩ := hs.at (i := i) (by simpa using hi)
  rw [Nat.mul_one] at h1
  rw [flat_one] at h2
  refine ⟨b, h0, h1, ?_⟩
  rw [h2.cell (by simpa using hi), List.getElem_map]
theorem Slc.nil (h : AHeap) : Slc N h sz .nsl [] := ⟨by simp, .inl ⟨rfl, .inl rfl⟩⟩
end
end
end Go.Proofs.Ytpnccmlajhhpdaa.Abs
