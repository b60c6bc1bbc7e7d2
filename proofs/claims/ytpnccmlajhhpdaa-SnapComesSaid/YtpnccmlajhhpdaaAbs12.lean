/- What a region whose order is open needs: operations that only compute, read, or make one row. -/
import Derived.Test.YtpnccmlajhhpdaaAbs11
namespace Go.Proofs.Ytpnccmlajhhpdaa.Abs
noncomputable section

section
variable {P : Program} {m : Map} {w0 : Base} {w : World} {H H' : AHeap} {nx : ANext}

/-- it comes to the same, whatever the heap is -/
def FreeOut (f : AHeap → OutT) (H : AHeap) (nx : ANext) (H' : AHeap) : Prop := ∃ v, nx = .val v ∧ H' = H ∧ ∀ h2, f h2 = some (.val v, h2)
theorem free_outV {x : Option AV} (h : outV H x = some (nx, H')) : FreeOut (fun h => outV h x) H nx H' := by
  unfold outV at h
  split at h
  · simp only [Option.some.injEq, Prod.mk.injEq] at h
    obtain ⟨rfl, rfl⟩ := h
    exact ⟨_, rfl, rfl, fun h2 => rfl⟩
  · cases h
theorem free_val {v : AV} (h : some (ANext.val v, H) = some (nx, H')) : FreeOut (fun h => some (.val v, h)) H nx H' := by
  simp only [Option.some.injEq, Prod.mk.injEq] at h
  obtain ⟨rfl, rfl⟩ := h
  exact ⟨_, rfl, rfl, fun h2 => rfl⟩
theorem FreeOut.eq {f g : AHeap → OutT} (hf : FreeOut f H nx H') (h : ∀ h2, g h2 = f h2) : FreeOut g H nx H' := by
  obtain ⟨v, h1, h2, h3⟩ := hf
  exact ⟨v, h1, h2, fun k => (h k).trans (h3 k)⟩
theorem free_pick {c a b : Option AV} (h : opPick H c a b = some (nx, H')) : FreeOut (fun h => opPick h c a b) H nx H' := by
  unfold opPick at h
  split at h
  · exact free_outV h
  · exact free_outV h
  · cases h
theorem free_agg {x : Option (List AV)} (h : outAgg H x = some (nx, H')) : FreeOut (fun h => outAgg h x) H nx H' := by
  unfold outAgg at h
  split at h
  · exact free_val h
  · cases h
theorem free_build {ρ : RhoT} {t : TypeId} {ps : Array (Nat × Operand)} (h : opBuild P ρ H t ps = some (nx, H')) : FreeOut (fun h => opBuild P ρ h t ps) H nx H' := by
  unfold opBuild at h
  split at h
  · rename_i z q hz hq
    split at h
    · rename_i fs hu
      split at h
      · rename_i hc
        exact (free_agg h).eq (fun h2 => by simp only [opBuild, hz, hq, hu, hc, if_true])
      · cases h
    · rename_i n e hu
      split at h
      · rename_i hc
        exact (free_agg h).eq (fun h2 => by simp only [opBuild, hz, hq, hu, hc, if_true])
      · cases h
    · cases h
  · cases h
theorem free_nil {x : Option AV} (h : opNil H x = some (nx, H')) : FreeOut (fun h => opNil h x) H nx H' := by
  unfold opNil at h
  split at h
  · exact free_val h
  · exact free_val h
  · exact free_val h
  · exact free_val h
  · cases h
theorem free_bin {op : BinOp} {t : TypeId} {l : Bool} {x y : Option AV} (h : opBin P H op t l x y = some (nx, H')) : FreeOut (fun h => opBin P h op t l x y) H nx H' := by
  unfold opBin at h
  split at h
  · exact free_outV h
  · cases h
theorem apart_free {t : TypeId} {l : Bool} (hk : l = true ∨ ∀ e, P.underlying t ≠ some (.pointer e)) (h2 : AHeap) (x y : AV) : (!l && apartPtr P h2 t x y) = false := by
  rcases hk with rfl | hk
  · rfl
  · have hb : ptrBig P t = false := by
      unfold ptrBig
      split
      · rename_i e hu; exact absurd hu (hk e)
      · rfl
    have ha : apartPtr P h2 t x y = false := by
      unfold apartPtr
      split
      · rw [hb]; simp
      · rfl
    rw [ha, Bool.and_false]
theorem free_binV {op : BinOp} {t : TypeId} {l : Bool} {x y : Option AV} (hk : l = true ∨ ∀ e, P.underlying t ≠ some (.pointer e)) (h : opBinV P H op t l x y = some (nx, H')) : FreeOut (fun h => opBinV P h op t l x y) H nx H' := by
  cases x with
  | none => cases h
  | some x => cases y with
    | none => cases h
    | some y =>
      have he : ∀ h2, opBinV P h2 op t l (some x) (some y) = opBin P h2 op t l (some x) (some y) := fun h2 => by
        simp only [opBinV, apart_free hk h2 x y]
      rw [he] at h
      exact (free_bin h).eq he
theorem free_un {op : UnOp} {x : Option AV} (h : opUn H op x = some (nx, H')) : FreeOut (fun h => opUn h op x) H nx H' := by
  unfold opUn at h
  split at h
  · split at h
    · exact free_val h
    · exact free_val h
    · cases h
  · split at h
    · exact free_val h
    · cases h
  · cases h
theorem free_conv {s d : TypeId} {x : Option AV} (hs : ∀ e, P.underlying s ≠ some (.slice e)) (hd : ∀ e, P.underlying d ≠ some (.slice e)) (hs2 : P.underlying s ≠ some .unsafePointer) (hd2 : P.underlying d ≠ some .unsafePointer) (h : opConv P H s d x = some (nx, H')) : FreeOut (fun h => opConv P h s d x) H nx H' := by
  have hb : ∀ cs, convBytes P H s d cs = some (nx, H') → False := by
    intro cs hh
    unfold convBytes at hh
    split at hh
    · rename_i e h1 h2; exact hs e h2
    · cases hh
  unfold opConv at h
  split at h
  · unfold convPtr at h
    split at h
    · split at h
      · rename_i h1 _ _; exact absurd h1 hd2
      · cases h
    · rename_i h1; exact absurd h1 hs2
    · cases h
  · split at h
    · rename_i h1 h2
      exact (free_val h).eq (fun q => by simp only [opConv, h1, h2])
    · cases h
  · split at h
    · rename_i h1
      unfold convStr at h
      split at h
      · rename_i h2
        exact (free_val h).eq (fun q => by simp only [opConv, convStr, h1, h2])
      · rename_i e h2; exact absurd h2 (hd e)
      · cases h
    · cases h
  · split at h
    · exact (hb _ h).elim
    · cases h
  · exact (hb _ h).elim
  · exact (hb _ h).elim
  · cases h
theorem free_iface {t : TypeId} {x : Option AV} (h : opIface P H t x = some (nx, H')) : FreeOut (fun h => opIface P h t x) H nx H' := by
  unfold opIface at h
  split at h
  · split at h
    · rename_i hc
      exact (free_val h).eq (fun q => by simp only [opIface, hc, if_true])
    · cases h
  · cases h
theorem free_makeFunc {ρ : RhoT} {fn : Fn} {a b : Array Operand} (h : opMakeFunc ρ H fn a b = some (nx, H')) : FreeOut (fun h => opMakeFunc ρ h fn a b) H nx H' := by
  unfold opMakeFunc at h
  split at h
  · split at h
    · rename_i x y hx hy
      exact (free_val h).eq (fun q => by simp only [opMakeFunc, hx, hy])
    · cases h
  · cases h
theorem free_slice {ρ : RhoT} {t : TypeId} {x : Operand} {lo hi mx : Option Operand} (hna : ∀ n e, P.underlying t ≠ some (.array n e)) (h : opSlice P ρ H t x lo hi mx = some (nx, H')) : FreeOut (fun h => opSlice P ρ h t x lo hi mx) H nx H' := by
  unfold opSlice at h
  split at h
  · split at h
    · rename_i q xv a b c hx ha hb hc
      refine FreeOut.eq (f := fun h => slice3A P h t xv a b c) ?_ (fun q => by simp only [opSlice, hx, ha, hb, hc])
      unfold slice3A at h
      split at h
      · cases h
      · split at h
        · cases h
        · split at h
          · unfold slice3Row at h
            split at h
            · rename_i l r k hl hr hk
              split at h
              · rename_i e he
                split at h
                · rename_i hcond
                  refine (free_val h).eq (fun q => ?_)
                  simp only [slice3A, slice3Row, hl, hr, hk, he]
                  rw [if_pos hcond]
                · cases h
              · cases h
            · cases h
          · cases h
    · cases h
  · split at h
    · rename_i a b c ha hb hc
      refine FreeOut.eq (f := fun h => sliceA P h t a b c) ?_ (fun q => by simp only [opSlice, ha, hb, hc])
      unfold sliceA at h
      split at h
      · split at h
        · rename_i n e hu; exact absurd hu (hna n e)
        · cases h
      · unfold sliceStr at h
        split at h
        · rename_i l r hl hr
          split at h
          · rename_i hu
            split at h
            · rename_i hcond
              exact (free_val h).eq (fun q => by simp only [sliceA, sliceStr, hl, hr, hu, hcond, and_self, if_true])
            · cases h
          · cases h
        · cases h
      · unfold sliceRow at h
        split at h
        · rename_i l r hl hr
          split at h
          · rename_i e he
            split at h
            · rename_i hcond
              refine (free_val h).eq (fun q => ?_)
              simp only [sliceA, sliceRow, hl, hr, he]
              rw [if_pos hcond]
            · cases h
          · cases h
        · cases h
      · unfold sliceNil at h
        split at h
        · rename_i hl hr
          split at h
          · rename_i e he
            split at h
            · rename_i hcond
              exact (free_val h).eq (fun q => by simp only [sliceA, sliceNil, hl, hr, he, hcond, if_true])
            · cases h
          · cases h
        · cases h
      · unfold sliceNil at h
        split at h
        · rename_i hl hr
          split at h
          · rename_i e he
            split at h
            · rename_i hcond
              exact (free_val h).eq (fun q => by simp only [sliceA, sliceNil, hl, hr, he, hcond, if_true])
            · cases h
          · cases h
        · cases h
      · cases h
    · cases h
theorem free_fieldAddr {s : TypeId} {f : Nat} {x : Option AV} (h : opFieldAddr P H s f x = some (nx, H')) : FreeOut (fun h => opFieldAddr P h s f x) H nx H' := by
  unfold opFieldAddr at h
  split at h
  · split at h
    · rename_i hu
      split at h
      · rename_i hf
        split at h
        · rename_i hc
          exact (free_val h).eq (fun q => by simp only [opFieldAddr, hu, hf, hc, if_true])
        · cases h
      · cases h
    · cases h
  · split at h
    · rename_i hu
      split at h
      · rename_i hf
        split at h
        · rename_i hc
          exact (free_val h).eq (fun q => by simp only [opFieldAddr, hu, hf, hc, if_true])
        · cases h
      · cases h
    · cases h
  · cases h
theorem free_field {t : TypeId} {f : Nat} {x : Option AV} (h : opField P H t f x = some (nx, H')) : FreeOut (fun h => opField P h t f x) H nx H' := by
  unfold opField at h
  split at h
  · split at h
    · rename_i hu
      split at h
      · rename_i hf
        exact (free_outV h).eq (fun q => by simp only [opField, hu, hf])
      · cases h
    · cases h
  · cases h
theorem free_indexAddr {t : TypeId} {x y : Option AV} (h : opIndexAddr P H t x y = some (nx, H')) : FreeOut (fun h => opIndexAddr P h t x y) H nx H' := by
  unfold opIndexAddr at h
  split at h
  · split at h
    · rename_i hu
      split at h
      · rename_i hc
        refine (free_val h).eq (fun q => ?_)
        simp only [opIndexAddr, hu]
        rw [if_pos hc]
      · cases h
    · cases h
  · split at h
    · rename_i hu
      split at h
      · rename_i hc
        refine (free_val h).eq (fun q => ?_)
        simp only [opIndexAddr, hu]
        rw [if_pos hc]
      · cases h
    · cases h
  · split at h
    · rename_i hu
      split at h
      · rename_i hc
        refine (free_val h).eq (fun q => ?_)
        simp only [opIndexAddr, hu]
        rw [if_pos hc]
      · cases h
    · cases h
  · cases h
theorem free_index {t : TypeId} {x y : Option AV} (h : opIndex P H t x y = some (nx, H')) : FreeOut (fun h => opIndex P h t x y) H nx H' := by
  unfold opIndex at h
  split at h
  · split at h
    · rename_i hu
      split at h
      · rename_i hc
        refine (free_outV h).eq (fun q => ?_)
        simp only [opIndex, hu]
        rw [if_pos hc]
      · cases h
    · cases h
  · split at h
    · rename_i hu
      split at h
      · rename_i hc
        refine (free_val h).eq (fun q => ?_)
        simp only [opIndex, hu]
        rw [if_pos hc]
      · cases h
    · cases h
  · cases h
theorem free_assert {t : TypeId} {ok : Bool} {x : Option AV} (h : opAssert P H t ok x = some (nx, H')) : FreeOut (fun h => opAssert P h t ok x) H nx H' := by
  unfold opAssert at h
  split at h
  · split at h
    · rename_i hc
      unfold concAssert at h
      split at h
      · rename_i he
        refine (free_val h).eq (fun q => ?_)
        simp only [opAssert, concAssert, hc, if_true]
        rw [if_pos he]
      · cases h
    · cases h
  · cases h
theorem free_extract {i : Nat} {x : Option AV} (h : opExtract H i x = some (nx, H')) : FreeOut (fun h => opExtract h i x) H nx H' := by
  unfold opExtract at h
  split at h
  · exact free_outV h
  · cases h
theorem free_len {t : TypeId} {x : AV} (hm : ∀ k e, P.underlying t ≠ some (.map k e)) (h : opLen P H t x = some (nx, H')) : FreeOut (fun h => opLen P h t x) H nx H' := by
  unfold opLen at h
  split at h
  · rename_i hu
    exact (free_val h).eq (fun q => by simp only [opLen, hu])
  · rename_i hu
    split at h
    · exact (free_val h).eq (fun q => by simp only [opLen, hu])
    · cases h
  · rename_i hu
    split at h
    · exact (free_val h).eq (fun q => by simp only [opLen, hu])
    · exact (free_val h).eq (fun q => by simp only [opLen, hu])
    · exact (free_val h).eq (fun q => by simp only [opLen, hu])
    · cases h
  · rename_i k e hu; exact absurd hu (hm k e)
  · cases h
theorem free_call {ρ : RhoT} {c : Call} (hk : kindOf P (.call c) = 0) (h : opCall P ρ H c = some (nx, H')) : FreeOut (fun h => opCall P ρ h c) H nx H' := by
  unfold opCall at h
  split at h
  · rename_i args ha
    obtain ⟨callee, cargs, ts⟩ := c
    simp only [kindOf] at hk ha h
    cases callee with
    | invoke r n => simp at h
    | value f => simp at hk
    | builtin b =>
      simp only at h hk
      refine FreeOut.eq (f := fun h => builtinA P b ts args h) ?_ (fun q => by simp only [opCall, ha])
      cases b <;> simp only at hk <;> try (cases hk; done)
      case len =>
        simp only [builtinA] at h
        split at h
        · rename_i x t l hts
          have h0 : ts[0]? = some t := by rw [← Array.getElem?_toList, hts]; rfl
          refine FreeOut.eq (free_len (fun k e hu => ?_) h) (fun q => by simp only [builtinA, hts])
          rw [h0] at hk
          simp [hu] at hk
        · cases h
      case max =>
        simp only [builtinA] at h
        split at h
        · exact free_outV h
        · cases h
      case min =>
        simp only [builtinA] at h
        split at h
        · exact free_outV h
        · cases h
  · cases h
/-- an operation that computes -/
theorem kind0 {ρ : RhoT} {o : Oper} (hk : kindOf P o.op = 0) (h : opA P ρ o H = some (nx, H')) : FreeOut (fun h => opA P ρ o h) H nx H' := by
  obtain ⟨dst, op, ty, pos, after, guard⟩ := o
  unfold opA opTable at h ⊢
  simp only at h hk ⊢
  cases op
  case move x => exact free_outV h
  case assign x => exact free_outV h
  case pick c a b => exact free_pick h
  case build t ps => exact free_build h
  case nilCheck x => exact free_nil h
  case binOp op t x y p =>
    refine free_binV ?_ h
    simp only [kindOf] at hk
    split at hk
    · rename_i hl; exact .inl hl
    · split at hk
      · cases hk
      · rename_i hu; exact .inr fun e he => hu e he
  case unOp op t x => exact free_un h
  case convert s d x =>
    simp only [kindOf] at hk
    refine free_conv (fun e hu => ?_) (fun e hu => ?_) (fun hu => ?_) (fun hu => ?_) h
    · rw [hu] at hk; simp at hk
    · rw [hu] at hk
      split at hk <;> simp at hk
    · rw [hu] at hk; simp at hk
    · rw [hu] at hk
      split at hk <;> simp at hk
  case makeInterface t x => exact free_iface h
  case makeFunc fn a b => exact free_makeFunc h
  case slice t x lo hi mx =>
    refine free_slice (fun n e hu => ?_) h
    simp only [kindOf, hu] at hk
    cases hk
  case fieldAddr s x f => exact free_fieldAddr h
  case field t x f => exact free_field h
  case indexAddr t x i => exact free_indexAddr h
  case index t x i => exact free_index h
  case typeAssert x u t ok => exact free_assert h
  case extract t i => exact free_extract h
  case call c => exact free_call hk h
  all_goals (simp [kindOf] at hk)
/-- an operation that reads -/
theorem kind1 {o : Op} (hk : kindOf P o = 1) : isRead o = true := by
  cases o
  case load t x => rfl
  case lookup => rfl
  case slice =>
    simp only [kindOf] at hk
    split at hk <;> cases hk
  case binOp =>
    simp only [kindOf] at hk
    split at hk
    · cases hk
    · split at hk <;> cases hk
  case convert s d x =>
    simp only [kindOf] at hk
    split at hk
    · cases hk
    · cases hk
    · split at hk <;> cases hk
  case call c =>
    simp only [kindOf] at hk
    split at hk
    · split at hk <;> cases hk
    · cases hk
    · cases hk
    · cases hk
  all_goals (simp [kindOf] at hk)
theorem load_out {t : TypeId} {x : Option AV} (h : opLoad P H t x = some (nx, H')) : ∃ v b o, nx = .val v ∧ H' = H ∧ (x = some (.ptr b o) ∨ x = some (.gptr b o)) ∧ (H.get b).isSome ∧ ∀ h2, h2.get b = H.get b → opLoad P h2 t x = some (.val v, h2) := by
  unfold opLoad at h
  split at h
  · rename_i b o
    have hget : ∀ n l, rowGet H b o n = some l → (H.get b).isSome = true := by
      intro n l hl
      unfold rowGet at hl
      split at hl
      · rename_i hb; rw [hb]; rfl
      · rename_i hb; rw [hb]; rfl
      · rename_i hb; rw [hb]; rfl
      · cases hl
    have hcell : ∀ v, cellGet H b o = some v → (H.get b).isSome = true := by
      intro v hl
      unfold cellGet at hl
      split at hl
      · rename_i hb; rw [hb]; rfl
      · rename_i hb; rw [hb]; rfl
      · rename_i hb; rw [hb]; rfl
      · cases hl
    split at h
    · rename_i ha
      split at h
      · rename_i l hl
        simp only [Option.some.injEq, Prod.mk.injEq] at h
        obtain ⟨rfl, rfl⟩ := h
        refine ⟨_, b, o, rfl, rfl, .inl rfl, hget _ _ hl, fun h2 e => ?_⟩
        have : rowGet h2 b o (P.cellsOf t) = rowGet H b o (P.cellsOf t) := by simp only [rowGet, e]
        simp only [opLoad, ha, this, hl]
      · cases h
    · rename_i ha
      unfold outV at h
      split at h
      · rename_i v hv
        simp only [Option.some.injEq, Prod.mk.injEq] at h
        obtain ⟨rfl, rfl⟩ := h
        refine ⟨_, b, o, rfl, rfl, .inl rfl, hcell _ hv, fun h2 e => ?_⟩
        have : cellGet h2 b o = cellGet H b o := by simp only [cellGet, e]
        simp only [opLoad, ha, this, hv, outV]
      · cases h
    · cases h
  · rename_i b o
    have hget : ∀ n l, rowGet H b o n = some l → (H.get b).isSome = true := by
      intro n l hl
      unfold rowGet at hl
      split at hl
      · rename_i hb; rw [hb]; rfl
      · rename_i hb; rw [hb]; rfl
      · rename_i hb; rw [hb]; rfl
      · cases hl
    have hcell : ∀ v, cellGet H b o = some v → (H.get b).isSome = true := by
      intro v hl
      unfold cellGet at hl
      split at hl
      · rename_i hb; rw [hb]; rfl
      · rename_i hb; rw [hb]; rfl
      · rename_i hb; rw [hb]; rfl
      · cases hl
    split at h
    case h_2 => cases h
    rename_i tg hgl
    split at h
    · rename_i ha
      split at h
      · rename_i l hl
        simp only [Option.some.injEq, Prod.mk.injEq] at h
        obtain ⟨rfl, rfl⟩ := h
        refine ⟨_, b, o, rfl, rfl, .inr rfl, hget _ _ hl, fun h2 e => ?_⟩
        have : rowGet h2 b o (P.cellsOf t) = rowGet H b o (P.cellsOf t) := by simp only [rowGet, e]
        simp only [opLoad, e, hgl, ha, this, hl]
      · cases h
    · rename_i ha
      unfold outV at h
      split at h
      · rename_i v hv
        simp only [Option.some.injEq, Prod.mk.injEq] at h
        obtain ⟨rfl, rfl⟩ := h
        refine ⟨_, b, o, rfl, rfl, .inr rfl, hcell _ hv, fun h2 e => ?_⟩
        have : cellGet h2 b o = cellGet H b o := by simp only [cellGet, e]
        simp only [opLoad, e, hgl, ha, this, hv, outV]
      · cases h
    · cases h
  · cases h
/-- an operation that reads -/
theorem read_out {ρ : RhoT} {o : Oper} (hr : isRead o.op = true) (h : opA P ρ o H = some (nx, H')) : ∃ v, nx = .val v ∧ H' = H ∧ ∀ h2, (∀ b, (H.get b).isSome = true → h2.get b = H.get b) → opA P ρ o h2 = some (.val v, h2) := by
  obtain ⟨dst, op, ty, pos, after, guard⟩ := o
  cases op <;> try (simp [isRead] at hr; done)
  case load t x =>
    change opLoad P H t _ = _ at h
    obtain ⟨v, b, off, e1, e2, _, h3, h4⟩ := load_out h
    exact ⟨v, e1, e2, fun h2 hh => h4 h2 (hh b h3)⟩
  case lookup t x y ok =>
    change opLookup P H t ok (ρ x) (ρ y) = _ at h
    have hout : ∀ et r, lookOut P H et ok r = some (nx, H') → ∃ v, nx = .val v ∧ H' = H ∧ ∀ h2, lookOut P h2 et ok r = some (.val v, h2) := by
      intro et r hl
      unfold lookOut at hl
      split at hl
      · simp only [Option.some.injEq, Prod.mk.injEq] at hl
        obtain ⟨rfl, rfl⟩ := hl
        exact ⟨_, rfl, rfl, fun h2 => rfl⟩
      · split at hl
        · rename_i z hz
          simp only [Option.some.injEq, Prod.mk.injEq] at hl
          obtain ⟨rfl, rfl⟩ := hl
          exact ⟨_, rfl, rfl, fun h2 => by simp only [lookOut, hz]⟩
        · cases hl
      · cases hl
    unfold opLookup at h
    split at h
    · rename_i a k hx hy
      split at h
      · rename_i kt et hu
        split at h
        · rename_i hkt
          split at h
          · rename_i es hes
            obtain ⟨v, e1, e2, e3⟩ := hout _ _ h
            refine ⟨v, e1, e2, fun h2 hh => ?_⟩
            have hm : mapGet h2 a = some es := by
              unfold mapGet at hes ⊢
              split at hes
              · exact hes
              · rename_i b
                split at hes
                · rename_i es' hb
                  rw [hh b (by rw [hb]; rfl), hb]; exact hes
                · cases hes
              · cases hes
            change opLookup P h2 t ok (ρ x) (ρ y) = _
            simp only [opLookup, hx, hy, hu, hkt, if_true, hm, e3]
          · cases h
        · cases h
      · cases h
    · cases h
/-- an operation that makes a row -/
theorem kind2 {o : Op} (hk : kindOf P o = 2) : (∃ e, o = .alloc e) ∨ ∃ e x, o = .box e x := by
  cases o
  case alloc e => exact .inl ⟨e, rfl⟩
  case box e x => exact .inr ⟨e, x, rfl⟩
  case slice =>
    simp only [kindOf] at hk
    split at hk <;> cases hk
  case binOp =>
    simp only [kindOf] at hk
    split at hk
    · cases hk
    · split at hk <;> cases hk
  case convert s d x =>
    simp only [kindOf] at hk
    split at hk
    · cases hk
    · cases hk
    · split at hk <;> cases hk
  case call c =>
    simp only [kindOf] at hk
    split at hk
    · split at hk <;> cases hk
    · cases hk
    · cases hk
    · cases hk
  all_goals (simp [kindOf] at hk)
theorem box_out {e : TypeId} {z : Option AV} (h : opBox H e z = some (nx, H')) : ∃ x, z = some x ∧ x.cells.all AV.one = true ∧ nx = .val (.ptr H.next 0) ∧ H' = H.new (rowOf x.cells e) ∧ ∀ h2, opBox h2 e z = some (.val (.ptr h2.next 0), h2.new (rowOf x.cells e)) := by
  unfold opBox at h
  split at h
  · rename_i x
    unfold outNew at h
    split at h
    · rename_i hc
      simp only [Option.some.injEq, Prod.mk.injEq] at h
      obtain ⟨rfl, rfl⟩ := h
      exact ⟨x, rfl, hc, rfl, rfl, fun h2 => by simp only [opBox, outNew, hc, if_true]⟩
    · cases h
  · cases h

/-! ### what an operation reads -/
theorem partsA_congr {ρ ρ2 : RhoT} : ∀ (l : List (Nat × Operand)), (∀ x ∈ l.map (·.2), ρ x = ρ2 x) → partsA ρ l = partsA ρ2 l
  | [], _ => rfl
  | (i, x) :: l, h => by
    simp only [partsA]
    rw [h x (by simp), partsA_congr l (fun y hy => h y (by simp at hy ⊢; exact .inr hy))]
theorem argsA_congr {ρ ρ2 : RhoT} : ∀ (l : List Operand), (∀ x ∈ l, ρ x = ρ2 x) → argsA ρ l = argsA ρ2 l
  | [], _ => rfl
  | x :: l, h => by
    simp only [argsA]
    rw [h x (by simp), argsA_congr l (fun y hy => h y (by simp [hy]))]
theorem optA_congr {ρ ρ2 : RhoT} {x : Option Operand} (h : ∀ o, x = some o → ρ o = ρ2 o) : optA ρ x = optA ρ2 x := by
  unfold optA
  split
  · rfl
  · rename_i o; rw [h o rfl]
theorem opA_congr {ρ ρ2 : RhoT} (o : Oper) (h : ∀ x ∈ o.op.operands.toList, ρ x = ρ2 x) (hp : AHeap) : opA P ρ o hp = opA P ρ2 o hp := by
  obtain ⟨dst, op, ty, pos, after, guard⟩ := o
  unfold opA opTable
  simp only at h ⊢
  cases op
  case build t ps => simp only [do_build, opBuild]; rw [partsA_congr ps.toList (fun x hx => h x (by simpa [Op.operands] using hx))]
  case buildSlice t n ps => simp only [do_buildSlice, opBuildSlice]; rw [partsA_congr ps.toList (fun x hx => h x (by simpa [Op.operands] using hx))]
  case makeFunc fn a b =>
    simp only [do_makeFunc, opMakeFunc]
    rw [argsA_congr a.toList (fun x hx => h x (by simp [Op.operands]; exact .inl (by simpa using hx))), argsA_congr b.toList (fun x hx => h x (by simp [Op.operands]; exact .inr (by simpa using hx)))]
  case slice t x lo hi mx =>
    simp only [do_slice, opSlice]
    rw [h x (by simp [Op.operands]), optA_congr (x := lo) (fun o e => h o (by simp [Op.operands, e])), optA_congr (x := hi) (fun o e => h o (by simp [Op.operands, e]))]
    cases mx with
    | none => rfl
    | some q =>
      have e : optA ρ (some q) = optA ρ2 (some q) := optA_congr (fun o e => by cases e; exact h q (by simp [Op.operands]))
      simp only [e]
  case call c =>
    simp only [do_call, opCall]
    rw [argsA_congr c.args.toList (fun x hx => h x (by simp only [Op.operands, Call.operands]; simp [hx]))]
    cases hc : c.callee with
    | value f =>
      have e := h f (by simp [Op.operands, Call.operands, hc])
      simp only [e]
    | builtin b => rfl
    | invoke r n => rfl
  case defer c =>
    simp only [do_defer, opDefer]
    rw [argsA_congr c.args.toList (fun x hx => h x (by simp only [Op.operands, Call.operands]; simp [hx]))]
    cases hc : c.callee with
    | value f =>
      have e := h f (by simp [Op.operands, Call.operands, hc])
      simp only [e]
    | builtin b => rfl
    | invoke r n => rfl
  case move x => simp only [do_move]; rw [h x (by simp [Op.operands])]
  case assign x => simp only [do_assign]; rw [h x (by simp [Op.operands])]
  case pick c a b => simp only [do_pick]; rw [h c (by simp [Op.operands]), h a (by simp [Op.operands]), h b (by simp [Op.operands])]
  case box e x => simp only [do_box]; rw [h x (by simp [Op.operands])]
  case insert t m k x => simp only [do_insert]; rw [h m (by simp [Op.operands]), h k (by simp [Op.operands]), h x (by simp [Op.operands])]
  case load t a => simp only [do_load]; rw [h a (by simp [Op.operands])]
  case store t a x => simp only [do_store]; rw [h a (by simp [Op.operands]), h x (by simp [Op.operands])]
  case nilCheck x => simp only [do_nilCheck]; rw [h x (by simp [Op.operands])]
  case binOp op t x y p => simp only [do_binOp]; rw [h x (by simp [Op.operands]), h y (by simp [Op.operands])]
  case unOp op t x => simp only [do_unOp]; rw [h x (by simp [Op.operands])]
  case convert s d x => simp only [do_convert]; rw [h x (by simp [Op.operands])]
  case makeInterface t x => simp only [do_makeInterface]; rw [h x (by simp [Op.operands])]
  case makeSlice t a b => simp only [do_makeSlice]; rw [h a (by simp [Op.operands]), h b (by simp [Op.operands])]
  case fieldAddr s x f => simp only [do_fieldAddr]; rw [h x (by simp [Op.operands])]
  case field t x f => simp only [do_field]; rw [h x (by simp [Op.operands])]
  case indexAddr t x i => simp only [do_indexAddr]; rw [h x (by simp [Op.operands]), h i (by simp [Op.operands])]
  case index t x i => simp only [do_index]; rw [h x (by simp [Op.operands]), h i (by simp [Op.operands])]
  case lookup t x i ok => simp only [do_lookup]; rw [h x (by simp [Op.operands]), h i (by simp [Op.operands])]
  case mapUpdate t m k x => simp only [do_mapUpdate]; rw [h m (by simp [Op.operands]), h k (by simp [Op.operands]), h x (by simp [Op.operands])]
  case typeAssert x u t ok => simp only [do_typeAssert]; rw [h x (by simp [Op.operands])]
  case extract t i => simp only [do_extract]; rw [h t (by simp [Op.operands])]
  case panic x => simp only [do_panic]; rw [h x (by simp [Op.operands])]
  all_goals rfl

/-! ### values that are the same -/
mutual
theorem AV.same_eq : ∀ (x y : AV), AV.same x y = true → x = y
  | .bool a, y, h => by cases y <;> simp [AV.same] at h ⊢; exact h
  | .int k a, y, h => by cases y <;> simp [AV.same] at h ⊢; exact h
  | .str a b, y, h => by cases y <;> simp [AV.same] at h ⊢; exact h
  | .ptr a b, y, h => by cases y <;> simp [AV.same] at h ⊢; exact h
  | .nilp, y, h => by cases y <;> simp [AV.same] at h ⊢
  | .sl a b c d, y, h => by cases y <;> simp [AV.same] at h ⊢; exact ⟨h.1.1.1, h.1.1.2, h.1.2, h.2⟩
  | .nsl, y, h => by cases y <;> simp [AV.same] at h ⊢
  | .esl, y, h => by cases y <;> simp [AV.same] at h ⊢
  | .mp a, y, h => by cases y <;> simp [AV.same] at h ⊢; exact h
  | .nmp, y, h => by cases y <;> simp [AV.same] at h ⊢
  | .fn f a b, y, h => by
    cases y <;> simp [AV.same] at h ⊢
    exact ⟨h.1.1, AV.sameL_eq _ _ h.1.2, AV.sameL_eq _ _ h.2⟩
  | .nfn, y, h => by cases y <;> simp [AV.same] at h ⊢
  | .ifc t v, y, h => by
    cases y <;> simp [AV.same] at h ⊢
    exact ⟨h.1, AV.same_eq _ _ h.2⟩
  | .nifc, y, h => by cases y <;> simp [AV.same] at h ⊢
  | .agg a, y, h => by cases y <;> simp [AV.same] at h ⊢; exact AV.sameL_eq _ _ h
  | .tup a, y, h => by cases y <;> simp [AV.same] at h ⊢; exact AV.sameL_eq _ _ h
  | .yld a, y, h => by cases y <;> simp [AV.same] at h ⊢; exact h
  | .mrk a, y, h => by cases y <;> simp [AV.same] at h ⊢; exact h
  | .gptr a b, y, h => by cases y <;> simp [AV.same] at h ⊢; exact h
theorem AV.sameL_eq : ∀ (x y : List AV), AV.sameL x y = true → x = y
  | [], y, h => by cases y <;> simp [AV.sameL] at h ⊢
  | a :: l, y, h => by
    cases y <;> simp [AV.sameL] at h ⊢
    exact ⟨AV.same_eq _ _ h.1, AV.sameL_eq _ _ h.2⟩
end

/-! ### lists of numbers -/
theorem memB_iff {i : Nat} : ∀ {l : List Nat}, memB i l = true ↔ i ∈ l
  | [] => by simp [memB]
  | j :: l => by simp [memB, memB_iff (l := l)]
theorem allB_iff {f : Nat → Bool} : ∀ {l : List Nat}, allB f l = true ↔ ∀ i ∈ l, f i = true
  | [] => by simp [allB]
  | j :: l => by simp [allB, allB_iff (l := l)]
theorem subB_iff {l k : List Nat} : subB l k = true ↔ ∀ i ∈ l, i ∈ k := by
  simp only [subB, allB_iff, memB_iff]
theorem allRec_mem {f : Rec → Bool} (l : List Rec) (h : allRec f l = true) : ∀ r ∈ l, f r = true := by
  induction l with
  | nil => intro r hr; simp at hr
  | cons j l ih =>
    rw [allRec, Bool.and_eq_true] at h
    intro r hr
    rcases List.mem_cons.1 hr with rfl | hr
    · exact h.1
    · exact ih h.2 r hr
theorem ancOf_closed {ops : Array Oper} {S : Nat → Prop} (hS : ∀ i, S i → ∀ j ∈ edgesAt ops i, S j) (n : Nat) : ∀ (i j : Nat), S i → ancOf ops n i j = true → S j := by
  induction n with
  | zero => intro i j _ h; simp [ancOf] at h
  | succ n ih =>
    intro i j hi h
    simp only [ancOf, Bool.or_eq_true, memB_iff, List.any_eq_true] at h
    rcases h with h | ⟨k, hk, h⟩
    · exact hS i hi j h
    · exact ih k j (hS i hi k hk) h
end

end
end Go.Proofs.Ytpnccmlajhhpdaa.Abs
