/- Nets: letters in memory; links in maps. -/
import Derived.Test.YthdkfofkghpmcaaWw
import Derived.Test.YthdkfofkghpmcaaAbs52
import Derived.Test.YthdkfofkghpmcaaAbs53
import Derived.Test.YthdkfofkghpmcaaAbs54
namespace Go.Proofs.Ythdkfofkghpmcaa
open Go.RowKit Abs
abbrev TLet : Nat := 32
abbrev TLets : Nat := 27
abbrev TNet : Nat := 63
abbrev TMap : Nat := 61
abbrev TLink : Nat := 75
structure Lt where
  id : Int
  a : Int
  b : Int
  s : Bytes
deriving DecidableEq
noncomputable def letC (l : Lt) : List AV := [.int .i64 l.id, .int .i64 l.a, .int .i64 l.b, strA l.s]
noncomputable def flatL (ls : List Lt) : List AV := (ls.map letC).flatten
theorem flatL_len (ls : List Lt) : (flatL ls).length = ls.length * 4 := by
  have := len_same (sz := 4) (ls.map letC) (fun r hr => by
    obtain ⟨c, _, rfl⟩ := List.mem_map.1 hr
    rfl)
  rw [List.length_map] at this
  exact this
theorem flatL_one (ls : List Lt) : (flatL ls).all AV.one = true := by
  rw [List.all_eq_true]
  intro x hx
  obtain ⟨r, hr, hxr⟩ := List.mem_flatten.1 hx
  obtain ⟨c, _, rfl⟩ := List.mem_map.1 hr
  have : (letC c).all AV.one = true := rfl
  exact List.all_eq_true.1 this x hxr
theorem flatL_app (a b : List Lt) : flatL (a ++ b) = flatL a ++ flatL b := by
  unfold flatL
  rw [List.map_append, List.flatten_append]
theorem flatL_take (ls : List Lt) (i : Nat) (hi : i ≤ ls.length) : (flatL ls).take (i * 4) = flatL (ls.take i) := by
  have e : flatL ls = flatL (ls.take i) ++ flatL (ls.drop i) := by rw [← flatL_app, List.take_append_drop]
  have hl : (flatL (ls.take i)).length = i * 4 := by rw [flatL_len, List.length_take]; omega
  rw [e, List.take_left' hl]
theorem flatL_drop (ls : List Lt) (i : Nat) (hi : i ≤ ls.length) : (flatL ls).drop (i * 4) = flatL (ls.drop i) := by
  have e : flatL ls = flatL (ls.take i) ++ flatL (ls.drop i) := by rw [← flatL_app, List.take_append_drop]
  have hl : (flatL (ls.take i)).length = i * 4 := by rw [flatL_len, List.length_take]; omega
  rw [e, List.drop_left' hl]
def blkV : AV → List Nat
  | .sl c _ _ _ => [c]
  | _ => []
theorem RowH.ne {h : AHeap} {b b' e e' : Nat} {l l' : List AV} (k : RowH h b e l) (k' : RowH h b' e' l') (hne : e ≠ e') : b ≠ b' := by
  intro hb
  subst hb
  obtain ⟨t, h1, _⟩ := k
  obtain ⟨t', h2, _⟩ := k'
  rw [h1] at h2
  simp only [Option.some.injEq, AObj.row.injEq] at h2
  exact hne h2.2.2
theorem RowH.ne_map {h : AHeap} {b b' e : Nat} {l : List AV} {es : List (AV × AV)} (k : RowH h b e l) (k' : h.get b' = some (.map es)) : b ≠ b' := by
  intro hb
  subst hb
  obtain ⟨t, h1, _⟩ := k
  rw [h1] at k'
  cases k'
/-- letters in memory; more may stand behind them -/
def LAt (h : AHeap) (v : AV) (ls : List Lt) : Prop := (v = .nsl ∧ ls = []) ∨ ∃ c rest, v = .sl c 0 ls.length 4 ∧ RowH h c TLet (flatL ls ++ rest) ∧ c < h.next
theorem fitLt : fitB Try.prog TLet 40 = true := by kernel_rfl
theorem bldLt (h : AHeap) (z a b : Int) (s : Bytes) : bldSl Try.prog h TLets 1 [(0, .agg [.int .i64 z, .int .i64 a, .int .i64 b, strA s])] = outNewS h TLet [.int .i64 z, .int .i64 a, .int .i64 b, strA s] 1 4 := by kernel_rfl
theorem bldLt0 (h : AHeap) : bldSl Try.prog h TLets 0 [] = outNewS h TLet [] 0 4 := by kernel_rfl
theorem idx4 {b m i : Nat} (h : i < m) : idxP 4 (.sl b 0 m 4) (i : Int) = some (.ptr b (0 + i * 4)) := by
  have e : Nat.blt i m = true := by simpa using h
  show (match Nat.blt i m with | true => some (AV.ptr b (0 + i * 4)) | false => none) = _
  rw [e]
theorem firstRow {h : AHeap} {b e sz : Nat} {r : List AV} (kr : RowH h b e r) (hr : r.length = sz) : firstA h sz (0 + 1) (.sl b 0 1 sz) = some r := by
  rw [Nat.zero_add, firstA_of_row (Nat.le_refl _), Nat.one_mul]
  have := kr.part (o := 0) (n := r.length) (by omega)
  rw [List.drop_zero, List.take_length, hr] at this
  exact this
theorem Wp.mnews0 {h : AHeap} {e sz : Nat} {k : AV → AHeap → R} {Q : ARes → AHeap → Prop} {o : OutT} (e1 : o = outNewS h e [] 0 sz) (hex : memB e h.ex = false) (hk : Wp (k (.sl h.next 0 0 sz) (newH h e [])) Q) : Wp (Abs.outK o k) Q := by
  refine Wp.outK (v := .sl h.next 0 0 sz) (h1 := newH h e []) ?_ hk
  rw [e1]
  unfold outNewS
  rw [if_pos ⟨rfl, hex⟩]
  rfl
theorem Wp.lettG {α : Type} {a : α} {K : α → R} {Q : ARes → AHeap → Prop} (hk : ∀ x, x = a → Wp (K x) Q) : Wp (Abs.lett a K) Q := hk a rfl
section
variable {h h' : AHeap} {v : AV} {ls : List Lt} {l : Lt}
theorem LAt.tch {S : List Nat} (k : LAt h v ls) (t : Tch S h h') (hS : ∀ b ∈ blkV v, b ∉ S) : LAt h' v ls := by
  rcases k with k | ⟨c, rest, rfl, h2, h3⟩
  · exact .inl k
  · exact .inr ⟨c, rest, rfl, h2.tch t h3 (hS c (List.mem_singleton.2 rfl)), Nat.lt_of_lt_of_le h3 t.1⟩
theorem LAt.lt (k : LAt h v ls) : ∀ b ∈ blkV v, b < h.next := by
  rcases k with ⟨rfl, _⟩ | ⟨c, rest, rfl, _, h3⟩
  · exact fun b hb => (nomatch hb)
  · intro b hb
    rw [List.mem_singleton.1 hb]
    exact h3
theorem LAt.len (k : LAt h v ls) : lenL v = some (ls.length : Int) := by
  rcases k with ⟨rfl, rfl⟩ | ⟨c, rest, rfl, _⟩ <;> rfl
theorem LAt.one (k : LAt h v ls) : v.one = true ∧ AV.cells v = [v] := by
  rcases k with ⟨rfl, rfl⟩ | ⟨c, rest, rfl, _⟩ <;> exact ⟨rfl, rfl⟩
theorem LAt.row (k : LAt h v ls) {i : Nat} (hi : i < ls.length) : ∃ p, idxP 4 v (i : Int) = some p ∧ ldRow h 4 p = some (letC ls[i]) := by
  rcases k with ⟨rfl, rfl⟩ | ⟨c, rest, rfl, h2, h3⟩
  · exact absurd hi (Nat.not_lt_zero _)
  · have hl := flatL_len ls
    have hp := flat_part (sz := 4) (ls.map letC) i (by rw [List.length_map]; exact hi) (fun r hr => by
      obtain ⟨c, _, rfl⟩ := List.mem_map.1 hr
      rfl)
    rw [List.getElem_map] at hp
    refine ⟨_, idx4 hi, ?_⟩
    rw [h2.ld (by rw [List.length_append]; omega), Nat.zero_add]
    congr 1
    rw [List.drop_append_of_le_length (by omega), List.take_append_of_le_length (by rw [List.length_drop]; omega)]
    exact hp
theorem LAt.push {b1 : Nat} (k : LAt h v ls) (kr : RowH h b1 TLet (letC l)) (hm : ls.length < 20000000) (hx : h.ex = []) :
    ∃ h', opAppend Try.prog h TLets TLets v (.sl b1 0 1 4) = some (.val (.sl h.next 0 (ls.length + 1) 4), h') ∧ LAt h' (.sl h.next 0 (ls.length + 1) 4) (ls ++ [l]) ∧ Tch (blkV v) h h' ∧ h.next < h'.next := by
  have he : Abs.elemOf Try.prog TLets = some TLet := by kernel_rfl
  have hu : notInt Try.prog TLets = true := by kernel_rfl
  have hsz : Try.prog.cellsOf TLet = 4 := by kernel_rfl
  have hex : memB TLet h.ex = false := by rw [hx]; rfl
  have eb : flatL (ls ++ [l]) = flatL ls ++ letC l := by
    rw [flatL_app]
    show flatL ls ++ (letC l ++ []) = _
    rw [List.append_nil]
  have el : ls.length + 1 = (ls ++ [l]).length := by rw [List.length_append, List.length_singleton]
  rcases k with ⟨rfl, rfl⟩ | ⟨b, rest, rfl, h2, h3⟩
  · have a1 := append_new (P := Try.prog) (h := h) (t := TLets) (u := TLets) (n := 0) (x := .sl b1 0 1 4) he hu hsz rfl (firstRow kr rfl) (bytesFit_of fitLt (by omega) (by omega)) rfl hex
    refine ⟨_, a1, .inr ⟨h.next, [], by rw [el], ?_, Nat.lt_succ_self _⟩, Tch.newH _ _ _ _, Nat.lt_succ_self _⟩
    rw [eb, List.append_nil]
    exact RowH.new _ _ _
  · have hcl := flatL_len ls
    have a1 := append_more (P := Try.prog) (h := h) (t := TLets) (u := TLets) (b := b) (o := 0) (m := ls.length) (n := 0) (x := .sl b1 0 1 4) (cs := flatL ls) he hu hsz rfl (firstRow kr rfl) (bytesFit_of fitLt (by omega) (by omega)) rfl hex (by
      have := h2.part (o := 0) (n := (flatL ls).length) (by rw [List.length_append]; omega)
      rw [List.drop_zero, List.take_left' rfl] at this
      rw [show ls.length * 4 = (flatL ls).length by omega]
      exact this) h2.type
    refine ⟨_, a1, .inr ⟨h.next, [], by rw [el], ?_, Nat.lt_succ_self _⟩, (Tch.put (S := [b]) (.inl (List.mem_singleton.2 rfl)) _).trans (Tch.newH _ _ _ _), Nat.lt_succ_self _⟩
    rw [eb, List.append_nil]
    exact RowH.new (h.put b .dead) _ _
theorem eqLt_sl (b m : Nat) (h : AHeap) : opBin Try.prog h .eql TLets true (some (.sl b 0 m 4)) (some AV.nsl) = some (.val (.bool false), h) := by kernel_rfl
theorem eqLt_nil (h : AHeap) : opBin Try.prog h .eql TLets true (some .nsl) (some AV.nsl) = some (.val (.bool true), h) := by kernel_rfl
theorem clone_ok {n d : Nat} (k : LAt h v ls) (hx : h.ex = []) (hm : ls.length ≤ 1000000) : ∃ h' v', world n (d + 1) 29 [v] h = some (.ret v', h') ∧ LAt h' v' ls ∧ Tch [] h h' ∧ ∀ b ∈ blkV v', h.next ≤ b := by
  suffices hK : Wp (world n (d + 1) 29 [v] h) fun r h' => ∃ v', r = .ret v' ∧ LAt h' v' ls ∧ Tch [] h h' ∧ ∀ b ∈ blkV v', h.next ≤ b by
    obtain ⟨_, h', e, v', rfl, k⟩ := hK
    exact ⟨h', v', e, k⟩
  rw [w_slices_Clone___api_Letter_api_Letter_]
  unfold slices_Clone___api_Letter_api_Letter_
  have he : Abs.elemOf Try.prog TLets = some TLet := by kernel_rfl
  have hu : notInt Try.prog TLets = true := by kernel_rfl
  have hsz : Try.prog.cellsOf TLet = 4 := by kernel_rfl
  rcases k with ⟨rfl, rfl⟩ | ⟨c, rest, rfl, h2, h3⟩
  · refine Wp.outK (eqLt_nil h) (Wp.obind (avBool_bool _) (Wp.ift rfl ?_))
    exact Wp.ret ⟨_, rfl, .inl ⟨rfl, rfl⟩, Tch.refl _ _, fun _ h => nomatch h⟩
  · refine Wp.outK (eqLt_sl c ls.length h) (Wp.obind (avBool_bool _) (Wp.iff rfl ?_))
    refine Wp.mnews0 (bldLt0 h) (by rw [hx]; rfl) ?_
    have hex : memB TLet (newH h TLet []).ex = false := by rw [ex_newH, hx]; rfl
    have kn := RowH.new h TLet []
    have hcl := flatL_len ls
    have k2 : RowH (newH h TLet []) c TLet (flatL ls ++ rest) := h2.tch (Tch.newH [] h _ _) h3 (fun h => nomatch h)
    have hfit := bytesFit_of (P := Try.prog) (e := TLet) (B := 40) (k := 0 + ls.length) fitLt (by omega) (by omega)
    have hpart : rowGet (newH h TLet []) c 0 (flatL ls).length = some (flatL ls) := by
      have := k2.part (o := 0) (n := (flatL ls).length) (by rw [List.length_append]; omega)
      rw [List.drop_zero, List.take_left' rfl] at this
      exact this
    have hfirst : ∀ m, m = ls.length → firstA (newH h TLet []) 4 m (.sl c 0 ls.length 4) = some (flatL ls) := by
      intro m hm
      rw [firstA_of_row (by omega), hm, show ls.length * 4 = (flatL ls).length by omega]
      exact hpart
    by_cases h0 : ls = []
    · subst h0
      refine Wp.outK (append_zero (b := h.next) (o := 0) (m := 0) (n := 0) he hu hsz rfl rfl (hfirst 0 rfl) hfit hex) ?_
      exact Wp.ret ⟨_, rfl, .inr ⟨h.next, [], rfl, kn, Nat.lt_succ_self _⟩, Tch.newH _ _ _ _, fun b hb => by rw [List.mem_singleton.1 hb]; exact Nat.le_refl _⟩
    · obtain ⟨m, hm2⟩ : ∃ m, ls.length = m + 1 := by
        cases ls with
        | nil => exact absurd rfl h0
        | cons a l => exact ⟨l.length, rfl⟩
      have hlen : lenA (.sl c 0 ls.length 4) = some (m + 1) := by rw [hm2]; rfl
      have a1 := append_more (P := Try.prog) (h := newH h TLet []) (t := TLets) (u := TLets) (b := h.next) (o := 0) (m := 0) (n := m) (x := .sl c 0 ls.length 4) (cs := []) he hu hsz hlen (hfirst _ hm2.symm) (by rw [← hm2]; exact hfit) (flatL_one ls) hex (by
        have := kn.part (o := 0) (n := 0) (Nat.le_refl _)
        exact this) kn.type
      refine Wp.outK a1 ?_
      refine Wp.ret ⟨_, rfl, .inr ⟨h.next + 1, [], by rw [hm2, Nat.zero_add]; rfl, ?_, Nat.lt_succ_self _⟩, ((Tch.newH [] h _ _).trans' (Tch.put (S := [h.next]) (.inl (List.mem_singleton.2 rfl)) .dead) fun b hb => .inr (by rw [List.mem_singleton.1 hb]; exact Nat.le_refl _)).trans (Tch.newH _ _ _ _), fun b hb => ?_⟩
      · rw [List.append_nil]
        exact RowH.new ((newH h TLet []).put h.next .dead) _ _
      · have hb2 : b = h.next + 1 := List.mem_singleton.1 hb
        omega
/-- one letter less, in its place -/
theorem LAt.del {n d : Nat} (k : LAt h v ls) {i : Nat} (hi : i < ls.length) : ∃ h' v', world n (d + 1) 38 [v, .int .i64 (i : Int), .int .i64 ((i : Int) + 1)] h = some (.ret v', h') ∧ LAt h' v' (ls.eraseIdx i) ∧ Tch (blkV v) h h' ∧ blkV v' = blkV v ∧ h'.next = h.next := by
  rcases k with ⟨rfl, rfl⟩ | ⟨c, rest, rfl, h2, h3⟩
  · exact absurd hi (Nat.not_lt_zero _)
  · have hl := flatL_len ls
    have hz : zeroA Try.prog TLet = some (.agg [.int .i64 0, .int .i64 0, .int .i64 0, .str 0 0]) := by kernel_rfl
    have hc4 : Try.prog.cellsOf TLet = 4 := by kernel_rfl
    have hg : rowGet h c 0 (ls.length * 4) = some (flatL ls) := by
      have := h2.part (o := 0) (n := (flatL ls).length) (by rw [List.length_append]; omega)
      rw [List.drop_zero, List.take_left' rfl, hl] at this
      exact this
    have hd : delCells 4 i (i + 1) (flatL ls) (AV.agg [.int .i64 0, .int .i64 0, .int .i64 0, .str 0 0]).cells = flatL (ls.drop (i + 1)) ++ [.int .i64 0, .int .i64 0, .int .i64 0, .str 0 0] := by
      unfold delCells
      rw [flatL_drop ls (i + 1) hi, show i + 1 - i = 1 by omega]
      rfl
    have hdl : (flatL (ls.drop (i + 1)) ++ [AV.int .i64 0, .int .i64 0, .int .i64 0, .str 0 0]).length = (ls.length - i) * 4 := by
      rw [List.length_append, flatL_len, List.length_drop]
      show _ + 4 = _
      omega
    have hall : (flatL (ls.drop (i + 1)) ++ [AV.int .i64 0, .int .i64 0, .int .i64 0, .str 0 0]).all AV.one = true := by
      rw [List.all_append, flatL_one]
      rfl
    obtain ⟨h', e1, k', hn', hx', hr'⟩ := h2.put (vs := flatL (ls.drop (i + 1)) ++ [.int .i64 0, .int .i64 0, .int .i64 0, .str 0 0]) (o := i * 4) (by rw [hdl, List.length_append]; omega) hall
    have he : (ls.eraseIdx i) = ls.take i ++ ls.drop (i + 1) := List.eraseIdx_eq_take_drop_succ ..
    have hel : (ls.eraseIdx i).length = ls.length - 1 := List.length_eraseIdx_of_lt hi
    refine ⟨h', .sl c 0 (ls.length - 1) 4, ?_, .inr ⟨c, [.int .i64 0, .int .i64 0, .int .i64 0, .str 0 0] ++ rest, by rw [hel], ?_, by omega⟩, tch_of hn' hx' hr' (.inl (List.mem_singleton.2 rfl)), rfl, hn'⟩
    · rw [w_delF]
      unfold delF
      show delS Try.prog TLet [.sl c 0 ls.length 4, .int .i64 ((i : Nat) : Int), .int .i64 ((i + 1 : Nat) : Int)] h = _
      unfold delS
      have b1 : (Nat.blt i (i + 1) && Nat.ble (i + 1) ls.length && Nat.beq 4 (Try.prog.cellsOf TLet)) = true := by
        rw [hc4, show Nat.blt i (i + 1) = true from Nat.ble_eq_true_of_le (Nat.le_refl _), show Nat.ble (i + 1) ls.length = true from Nat.ble_eq_true_of_le hi]
        rfl
      show (match Nat.blt i (i + 1) && Nat.ble (i + 1) ls.length && Nat.beq 4 (Try.prog.cellsOf TLet) with
        | true => match rowGet h c 0 (ls.length * 4), zeroA Try.prog TLet with
          | some cs, some z => match rowPut h c (0 + i * 4) (delCells 4 i (i + 1) cs z.cells) with
            | some h' => some (ARes.ret (.sl c 0 (ls.length - (i + 1 - i)) 4), h')
            | none => none
          | _, _ => none
        | false => none) = _
      rw [b1, hg, hz]
      dsimp only
      rw [hd, Nat.zero_add, e1, show ls.length - (i + 1 - i) = ls.length - 1 by omega]
    · have hlaid : laid (flatL ls ++ rest) (i * 4) (flatL (ls.drop (i + 1)) ++ [.int .i64 0, .int .i64 0, .int .i64 0, .str 0 0]) = flatL (ls.eraseIdx i) ++ ([.int .i64 0, .int .i64 0, .int .i64 0, .str 0 0] ++ rest) := by
        unfold laid
        rw [hdl, he, flatL_app, List.take_append_of_le_length (by omega), flatL_take ls i (by omega), show i * 4 + (ls.length - i) * 4 = (flatL ls).length by omega, List.drop_left' rfl]
        simp only [List.append_assoc]
      rw [← hlaid]
      exact k'
end
/-! ### links that are cut -/
noncomputable def kC (p : Int × Int) : AV := .agg [.int .i64 p.1, .int .i64 p.2]
noncomputable def esOf (l : List (Int × Int)) : List (AV × AV) := l.map fun p => (kC p, .agg [])
theorem eqA_link (p q : Int × Int) : eqA Try.prog 64 TLink (kC p) (kC q) = some (decide (p = q)) := by
  have hf : flatB Try.prog TLink [1, 1] = true := by kernel_rfl
  have he : eqL [1, 1] [AV.int .i64 p.1, .int .i64 p.2] [AV.int .i64 q.1, .int .i64 q.2] = some ((p.1 == q.1) && ((p.2 == q.2) && true)) := eqL_cons rfl (eqCell_int _ _ _) (eqL_cons rfl (eqCell_int _ _ _) rfl)
  have hb : ((p.1 == q.1) && ((p.2 == q.2) && true)) = decide (p = q) := by
    obtain ⟨a, b⟩ := p
    obtain ⟨c, d⟩ := q
    by_cases h1 : a = c
    · by_cases h2 : b = d
      · simp [h1, h2]
      · simp [h1, h2]
    · simp [h1]
  rw [hb] at he
  unfold flatB at hf
  simp only [Bool.and_eq_true, Bool.not_eq_true'] at hf
  obtain ⟨⟨⟨⟨h1, h2⟩, h3⟩, h4⟩, h5⟩ := hf
  have h5 : (Try.prog.fieldsOf TLink).toList.length < 62 := by
    have : (Nat.blt (Try.prog.fieldsOf TLink).toList.length 62) = true := by kernel_rfl
    exact Nat.le_of_ble_eq_true this
  unfold kC eqA
  cases hu : Try.prog.underlying TLink with
  | none => rw [hu] at h1; cases h1
  | some u =>
    rw [hu] at h1
    cases u <;> simp at h1
    simp only [h3, Bool.false_eq_true, if_false]
    exact eqFields_flat _ [1, 1] 0 62 [.int .i64 p.1, .int .i64 p.2] [.int .i64 q.1, .int .i64 q.2] [] [] _ h4 rfl rfl he h5
theorem keySame_link (p q : Int × Int) : keySame Try.prog TLink (kC p) (kC q) = some (decide (p = q)) := by
  have e := eqA_link p q
  unfold kC at e ⊢
  unfold keySame
  dsimp only
  rw [e]
  by_cases h : p = q
  · subst h
    rw [decide_eq_true rfl]
    have hk : keyCells [AV.int .i64 p.1, .int .i64 p.2] [AV.int .i64 p.1, .int .i64 p.2] = true := by
      simp [keyCells, sameKey]
    dsimp only
    rw [hk]
  · rw [decide_eq_false h]
theorem find_link (p : Int × Int) : ∀ l : List (Int × Int), findM Try.prog TLink (kC p) (esOf l) = some (if p ∈ l then some (.agg []) else none)
  | [] => rfl
  | q :: l => by
    show (match keySame Try.prog TLink (kC p) (kC q) with
      | some true => some (some (AV.agg []))
      | some false => findM Try.prog TLink (kC p) (esOf l)
      | none => none) = _
    rw [keySame_link]
    by_cases h : p = q
    · rw [decide_eq_true h, if_pos (by rw [h]; exact List.mem_cons_self)]
    · rw [decide_eq_false h]
      dsimp only
      rw [find_link p l]
      by_cases h2 : p ∈ l
      · rw [if_pos h2, if_pos (List.mem_cons_of_mem _ h2)]
      · rw [if_neg h2, if_neg (fun hm => (List.mem_cons.1 hm).elim h h2)]
def putL (p : Int × Int) (l : List (Int × Int)) : List (Int × Int) := if p ∈ l then l else l ++ [p]
theorem put_link (p : Int × Int) : ∀ l : List (Int × Int), putM Try.prog TLink (kC p) (.agg []) (esOf l) = some (esOf (putL p l))
  | [] => rfl
  | q :: l => by
    show (match keySame Try.prog TLink (kC p) (kC q) with
      | some true => some ((kC p, AV.agg []) :: esOf l)
      | some false => match putM Try.prog TLink (kC p) (.agg []) (esOf l) with
        | some r => some ((kC q, AV.agg []) :: r)
        | none => none
      | none => none) = _
    rw [keySame_link]
    by_cases h : p = q
    · rw [decide_eq_true h]
      unfold putL
      rw [if_pos (by rw [h]; exact List.mem_cons_self), h]
      rfl
    · rw [decide_eq_false h]
      dsimp only
      rw [put_link p l]
      unfold putL
      by_cases h2 : p ∈ l
      · rw [if_pos h2, if_pos (List.mem_cons_of_mem _ h2)]
        rfl
      · rw [if_neg h2, if_neg (fun hm => (List.mem_cons.1 hm).elim h h2)]
        rfl
def delL (p : Int × Int) : List (Int × Int) → List (Int × Int)
  | [] => []
  | q :: l => if p = q then l else q :: delL p l
theorem del_link (p : Int × Int) : ∀ l : List (Int × Int), delM Try.prog TLink (kC p) (esOf l) = some (esOf (delL p l))
  | [] => rfl
  | q :: l => by
    show (match keySame Try.prog TLink (kC p) (kC q) with
      | some true => some (esOf l)
      | some false => match delM Try.prog TLink (kC p) (esOf l) with
        | some r => some ((kC q, AV.agg []) :: r)
        | none => none
      | none => none) = _
    rw [keySame_link]
    unfold delL
    by_cases h : p = q
    · rw [decide_eq_true h, if_pos h]
    · rw [decide_eq_false h, if_neg h]
      dsimp only
      rw [del_link p l]
      rfl
theorem keyT_link (p : Int × Int) : keyT Try.prog TLink (kC p) = true := by
  unfold kC
  kernel_rfl
end Go.Proofs.Ythdkfofkghpmcaa
