/- Closed calls with loops over functions, and with tables at package level: dear ones are looked up. -/
import Derived.Test.YtpnccmlajhhpdaaAbs39
namespace Go.Proofs.Ytpnccmlajhhpdaa.Abs
noncomputable section
open Go.RowKit

/-! ### tables at package level: variable g holds these cells -/
abbrev Tabs := List (Nat × List AV)
def Laid (GL : Tabs) (W : World) : Prop := ∀ g l, (g, l) ∈ GL → g < W.heap.size ∧ ∀ i x, l[i]? = some x → ∃ y, W.cell? ⟨g, i, none⟩ = some y ∧ Rel [] x y ∧ y.oneCell' = true
theorem laid_nil (W : World) : Laid [] W := fun _ _ h => by cases h
theorem Laid.below {GL : Tabs} {W W' : World} (h : Laid GL W) (hb : Below W.heap.size W W') : Laid GL W' := fun g l hg => by
  obtain ⟨h1, h2⟩ := h g l hg
  refine ⟨Nat.lt_of_lt_of_le h1 hb.size, fun i x hx => ?_⟩
  obtain ⟨y, a, b⟩ := h2 i x hx
  exact ⟨y, (hb.cell (p := ⟨g, i, none⟩) h1).trans a, b⟩
def tabTree : Tabs → T AObj
  | [] => .e
  | (g, l) :: r => (tabTree r).set g (.glob (T.put .e 0 l))
def startG (GL : Tabs) (X : List Nat) (G : Nat) : AHeap := ⟨G, X, tabTree GL⟩
def tabsOk (G : Nat) : Tabs → Bool
  | [] => true
  | (g, _) :: r => Nat.blt g G && tabsOk G r
theorem tabTree_get : ∀ {GL : Tabs} {b : Nat} {o : AObj}, (tabTree GL).get b = some o → ∃ l, (b, l) ∈ GL ∧ o = .glob (T.put .e 0 l)
  | [], b, o, h => by
    have h : (T.e : T AObj).get b = some o := h
    rw [T.get_e] at h; cases h
  | (g, l) :: r, b, o, h => by
    unfold tabTree at h
    by_cases e : g = b
    · subst e
      rw [T.get_set_same] at h
      simp only [Option.some.injEq] at h
      exact ⟨l, List.mem_cons_self .., h.symm⟩
    · rw [T.get_set_other _ _ e] at h
      obtain ⟨l', h1, h2⟩ := tabTree_get h
      exact ⟨l', List.mem_cons_of_mem _ h1, h2⟩
theorem tabsOk_mem {G : Nat} : ∀ {GL : Tabs}, tabsOk G GL = true → ∀ g l, (g, l) ∈ GL → g < G
  | [], _, _, _, h => by cases h
  | (g', l') :: r, hk, g, l, h => by
    unfold tabsOk at hk
    rw [Bool.and_eq_true] at hk
    rcases List.mem_cons.1 h with h | h
    · cases h; exact Nat.le_of_ble_eq_true hk.1
    · exact tabsOk_mem hk.2 g l h
def mapG (G : Nat) : Map := (List.range G).map fun b => some (b, 0, 0)
theorem fits_startG {GL : Tabs} {X : List Nat} {G : Nat} {W : World} (hL : Laid GL W) (hG : tabsOk G GL = true) : Fits W (mapG G) (startG GL X G) W := by
  have get : ∀ {b : Nat} {o : AObj}, (startG GL X G).get b = some o → ∃ l, (b, l) ∈ GL ∧ o = .glob (T.put .e 0 l) := fun h => tabTree_get h
  have no : ∀ {b : Nat} {o : AObj}, (startG GL X G).get b = some o → o.alive = true → False := fun h ha => by
    obtain ⟨l, _, rfl⟩ := get h
    cases ha
  exact {
    below := Below.refl _ _
    floor := Nat.zero_le _
    pin := fun k o hk => by cases hk
    len := by simp [mapG, startG]
    fresh := fun b hb => by
      cases e : (startG GL X G).get b with
      | none => rfl
      | some o =>
        obtain ⟨l, h1, _⟩ := get e
        have := tabsOk_mem hG b l h1
        have hb : G ≤ b := hb
        omega
    wf := fun b n t e h => (no h rfl).elim
    row := fun b n t e g s z h => (no h rfl).elim
    map := fun b es g s z h => (no h rfl).elim
    obj := fun b q g s z h => (no h rfl).elim
    exact := fun b n t e g s z h => (no h rfl).elim
    ro := fun b t g s z h => by
      obtain ⟨l, _, e⟩ := get h
      cases e
    glob := fun b t h => by
      obtain ⟨l, h1, e⟩ := get h
      cases e
      have hb := tabsOk_mem hG b l h1
      obtain ⟨h2, h3⟩ := hL b l h1
      refine ⟨0, by simp [mapG, List.getElem?_range hb], h2, fun i x hx => ?_⟩
      rw [rowOf_get] at hx
      obtain ⟨y, a, c, d⟩ := h3 i x hx
      exact ⟨y, by rw [Nat.zero_add]; exact a, c.mono (fun b p h => by simp at h), d⟩
    sep := fun b b' o o' g s z s' z' _ h _ ha => (no h ha).elim }

/-! ### what has been looked up -/
def Memo.look (M : Memo) (f : FuncId) (args : List AV) : Option ARes := match M.has f with
  | true => M.find f args
  | false => none
/-- it is so, wherever the tables are laid -/
def Memo.okG (P : Program) (GL : Tabs) (M : Memo) : Prop := ∀ f args r, M.find f args = some r → ∀ (w0 : Base), Laid GL w0.w → ∀ (h : AHeap) (m : Map) (w : World) (args' : List Value), RelL m args args' → Fits w0 m h w → Calls P f ⟨args'⟩ w (RetOK w0 m h r)
theorem Memo.okG_nil {P : Program} {GL : Tabs} : Memo.okG P GL [] := fun _ _ _ h => by cases h
theorem Memo.lookOK {P : Program} {GL : Tabs} {M : Memo} (h : M.okG P GL) {w0 : Base} (hL : Laid GL w0.w) : LookOK P w0 M.look := by
  intro f args r hr
  unfold Memo.look at hr
  split at hr
  · exact h f args r hr w0 hL
  · cases hr
/-- a closed call, with what has been looked up -/
def runG (P : Program) (M : Memo) (L : List Nat) (GL : Tabs) (X : List Nat) (G lf d : Nat) (f : FuncId) (args : List AV) : Option (ARes × AHeap) := bothA P (fun _ => none) M.look L lf d false f args (startG GL X G)
theorem runG_calls {P : Program} (hm : P.follows .mixedOrders = true) {GL : Tabs} {M : Memo} (hM : M.okG P GL) {L X : List Nat} {G lf d : Nat} (hG : tabsOk G GL = true) {f : FuncId} {args : List AV} {r : ARes} {h' : AHeap} (hr : runG P M L GL X G lf d f args = some (r, h'))
    {W : World} (hL : Laid GL W) {args' : List Value} (ha : RelL (mapG G) args args') : Calls P f ⟨args'⟩ W (RetOK W (mapG G) h' r) :=
  (bothA_ok hm (noSpec_ok W) (Memo.lookOK hM (w0 := W) hL) d).call f args _ r h' hr (mapG G) W args' ha (fits_startG hL hG)
/-- what a call of plain values comes to where there are the tables alone, it comes to in any memory, which stays as it was -/
theorem came_any {P : Program} (hm : P.follows .mixedOrders = true) {GL : Tabs} {M : Memo} (hM : M.okG P GL) {L X : List Nat} {G lf d : Nat} (hG : tabsOk G GL = true) {f : FuncId} {args : List AV} {r : ARes} (hs : AV.scalL args = true) (hv : r.val.scal = true)
    (hr : came r (runG P M L GL X G lf d f args) = true) {w0 : Base} (hL : Laid GL w0.w) {h : AHeap} {m : Map} {w : World} {args' : List Value} (ha : RelL m args args') (F : Fits w0 m h w) : Calls P f ⟨args'⟩ w (RetOK w0 m h r) := by
  unfold came at hr
  split at hr
  · rename_i s hF e
    have := ARes.same_eq hr
    subst this
    refine Calls.keep (runG_calls hm hM hG e (hL.below F.below) (RelL.scal ha hs)) ?_
    rintro e w' ⟨m', _, F', hres⟩
    refine ⟨m, Ext.refl m, ?_, ?_⟩
    · refine F.world ?_ ?_ (fun k o hk => F'.below.block k (heap_lt (F.pin k o hk).1)) F'.below.size
      · exact (F.below).trans (F'.below.mono F.size)
      · intro b o g s z hb ho hm
        exact F'.below.block g (F.mapped_lt hb ho hm)
    · cases s with
      | ret v => obtain ⟨v', e1, e2⟩ := hres; exact ⟨v', e1, e2.scal hv⟩
      | panic v => obtain ⟨v', e1, e2⟩ := hres; exact ⟨v', e1, e2.scal hv⟩
  · cases hr
theorem Memo.okG_cons {P : Program} (hm : P.follows .mixedOrders = true) {GL : Tabs} {M : Memo} {f : FuncId} {args : List AV} {r : ARes} {L X : List Nat} {G lf d : Nat} (hM : M.okG P GL) (hG : tabsOk G GL = true) (hs : AV.scalL args = true) (hv : r.val.scal = true)
    (hr : came r (runG P M L GL X G lf d f args) = true) : Memo.okG P GL ((f, args, r) :: M) := by
  intro g as s hf w0 hL h m w args' ha F
  unfold Memo.find at hf
  split at hf
  · rename_i e
    have := Nat.eq_of_beq_eq_true e
    subst this
    split at hf
    · rename_i e2
      have := AV.sameL_eq _ _ e2
      subst this
      simp only [Option.some.injEq] at hf; subst hf
      exact came_any hm hM hG hs hv hr hL ha F
    · exact hM _ _ _ hf w0 hL h m w args' ha F
  · exact hM _ _ _ hf w0 hL h m w args' ha F
/-- A CALL WITHOUT ARGUMENTS THAT THE SMALL MACHINE SAYS RETURNS TRUE RETURNS TRUE, and leaves what was there as it was. -/
theorem saysG_true {P : Program} (hm : P.follows .mixedOrders = true) {GL : Tabs} {G lf d : Nat} {M : Memo} (hM : M.okG P GL) {f : FuncId} {L X : List Nat} (hG : tabsOk G GL = true) (h : saysTrue (runG P M L GL X G lf d f []) = true) (W : World) (hL : Laid GL W) :
    Calls P f #[] W fun e W' => e = .returned (.bool true) ∧ Below W.heap.size W W' := by
  unfold saysTrue at h
  split at h
  · rename_i b h' hr
    subst h
    refine Calls.mono (runG_calls hm hM hG hr hL .nil) ?_
    rintro e W' ⟨m', _, F, v', rfl, hv⟩
    cases hv
    exact ⟨rfl, F.below⟩
  · cases h
/-- without tables: in any world -/
theorem says_of_came {P : Program} (hm : P.follows .mixedOrders = true) {G lf d : Nat} {f : FuncId} {args : List AV} {r : ARes} {L X : List Nat} (hs : AV.scalL args = true) (hv : r.val.scal = true) (hr : came r (runG P [] L [] X G lf d f args) = true) (h : AHeap) : Says P f args h r h :=
  fun w0 _ _ _ ha F => came_any hm Memo.okG_nil rfl hs hv hr (laid_nil w0.w) ha F
end
end Go.Proofs.Ytpnccmlajhhpdaa.Abs
