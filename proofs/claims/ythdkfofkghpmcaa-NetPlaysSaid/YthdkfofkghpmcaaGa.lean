/- Lists of rows in memory, whatever the rows; what the reference holds. -/
import Derived.Test.YthdkfofkghpmcaaFf
namespace Go.Proofs.Ythdkfofkghpmcaa
open Go.RowKit Abs
/-- what is known of a slice's type -/
structure ElT (P : Program) (T e sz B : Nat) : Prop where
  he : Abs.elemOf P T = some e
  hu : notInt P T = true
  hsz : P.cellsOf e = sz
  fit : fitB P e B = true
  hi : (P.info? e).isSome = true
def RowsOk (sz : Nat) (cs : List (List AV)) : Prop := ∀ r ∈ cs, r.length = sz ∧ r.all AV.one = true
/-- rows in memory; more may stand behind them -/
def LsAt (e sz : Nat) (h : AHeap) (v : AV) (cs : List (List AV)) : Prop := ((v = .nsl ∧ cs = []) ∨ ∃ c rest, v = .sl c 0 cs.length sz ∧ RowH h c e (cs.flatten ++ rest) ∧ c < h.next) ∧ RowsOk sz cs
/-- rows that can be read -/
def RdAt (sz : Nat) (h : AHeap) (x : AV) (cs : List (List AV)) : Prop := (lenA x = some cs.length ∧ firstA h sz cs.length x = some cs.flatten) ∧ RowsOk sz cs
theorem RowsOk.len {sz : Nat} {cs : List (List AV)} (k : RowsOk sz cs) : cs.flatten.length = cs.length * sz := len_same cs fun r hr => (k r hr).1
theorem RowsOk.one {sz : Nat} {cs : List (List AV)} (k : RowsOk sz cs) : cs.flatten.all AV.one = true := by
  rw [List.all_eq_true]
  intro x hx
  obtain ⟨r, hr, hxr⟩ := List.mem_flatten.1 hx
  exact List.all_eq_true.1 (k r hr).2 x hxr
theorem RowsOk.app {sz : Nat} {cs ds : List (List AV)} (k : RowsOk sz cs) (j : RowsOk sz ds) : RowsOk sz (cs ++ ds) := fun r hr => (List.mem_append.1 hr).elim (k r) (j r)
theorem slice_to {P : Program} {h : AHeap} {t e : TypeId} {b m sz k : Nat} {k1 : IntKind} (he : Abs.elemOf P t = some e) (hi : (P.info? e).isSome = true) (hsz : P.cellsOf e = sz) (h1 : k ≤ m) :
    sliceA P h t (.sl b 0 m sz) none (some (.int k1 (k : Int))) = some (.val (.sl b 0 k sz), h) := by
  have b1 : boundA (some (AV.int k1 (k : Int))) m = some k := rfl
  have b2 : boundA none 0 = some 0 := rfl
  simp only [sliceA, sliceRow, b1, b2, he]
  rw [if_pos ⟨Nat.ble_eq_true_of_le (Nat.zero_le k), Nat.ble_eq_true_of_le h1, hsz.symm, hi⟩, if_neg (fun hc => by have := Nat.le_of_ble_eq_true hc.2; omega), Nat.zero_mul, Nat.add_zero, Nat.sub_zero]
section
variable {P : Program} {T e sz B : Nat} {h h' : AHeap} {v x : AV} {cs ds : List (List AV)}
theorem LsAt.tch {S : List Nat} (k : LsAt e sz h v cs) (t : Tch S h h') (hS : ∀ b ∈ blkV v, b ∉ S) : LsAt e sz h' v cs := by
  obtain ⟨k | ⟨c, rest, rfl, h2, h3⟩, hr⟩ := k
  · exact ⟨.inl k, hr⟩
  · exact ⟨.inr ⟨c, rest, rfl, h2.tch t h3 (hS c (List.mem_singleton.2 rfl)), Nat.lt_of_lt_of_le h3 t.1⟩, hr⟩
theorem LsAt.lt (k : LsAt e sz h v cs) : ∀ b ∈ blkV v, b < h.next := by
  obtain ⟨⟨rfl, _⟩ | ⟨c, rest, rfl, _, h3⟩, _⟩ := k
  · exact fun b hb => (nomatch hb)
  · intro b hb
    rw [List.mem_singleton.1 hb]
    exact h3
theorem LsAt.len (k : LsAt e sz h v cs) : lenL v = some (cs.length : Int) := by
  obtain ⟨⟨rfl, rfl⟩ | ⟨c, rest, rfl, _⟩, _⟩ := k <;> rfl
theorem LsAt.one (k : LsAt e sz h v cs) : v.one = true ∧ AV.cells v = [v] := by
  obtain ⟨⟨rfl, rfl⟩ | ⟨c, rest, rfl, _⟩, _⟩ := k <;> exact ⟨rfl, rfl⟩
theorem LsAt.row (k : LsAt e sz h v cs) (hx : ∀ b m i : Nat, i < m → idxP sz (.sl b 0 m sz) (i : Int) = some (.ptr b (0 + i * sz))) {i : Nat} (hi : i < cs.length) : ∃ p, idxP sz v (i : Int) = some p ∧ ldRow h sz p = some cs[i] := by
  obtain ⟨⟨rfl, rfl⟩ | ⟨c, rest, rfl, h2, h3⟩, hr⟩ := k
  · exact absurd hi (Nat.not_lt_zero _)
  · have hl := hr.len
    have hp := flat_part (sz := sz) cs i hi (fun r h => (hr r h).1)
    have hb : i * sz + sz ≤ cs.length * sz := by
      rw [← Nat.succ_mul]
      exact Nat.mul_le_mul_right _ hi
    refine ⟨_, hx c _ _ hi, ?_⟩
    rw [h2.ld (by rw [List.length_append]; omega), Nat.zero_add]
    congr 1
    rw [List.drop_append_of_le_length (by omega), List.take_append_of_le_length (by rw [List.length_drop]; omega)]
    exact hp
theorem LsAt.rd (k : LsAt e sz h v cs) : RdAt sz h v cs := by
  obtain ⟨⟨rfl, rfl⟩ | ⟨c, rest, rfl, k, hc⟩, hr⟩ := k
  · exact ⟨⟨rfl, rfl⟩, hr⟩
  · refine ⟨⟨rfl, ?_⟩, hr⟩
    have hl := hr.len
    have := k.part (o := 0) (n := cs.flatten.length) (by rw [List.length_append]; omega)
    rw [List.drop_zero, List.take_left' rfl] at this
    rw [firstA_of_row (Nat.le_refl _), ← hl]
    exact this
theorem LsAt.take (E : ElT P T e sz B) (k : LsAt e sz h v cs) {i : Nat} (hi : i < cs.length) : ∃ x, sliceA P h T v none (some (.int .i64 (i : Int))) = some (.val x, h) ∧ RdAt sz h x (cs.take i) := by
  obtain ⟨⟨rfl, rfl⟩ | ⟨c, rest, rfl, k, hc⟩, hr⟩ := k
  · exact absurd hi (Nat.not_lt_zero _)
  · have hr2 : RowsOk sz (cs.take i) := fun r h => hr r (List.mem_of_mem_take h)
    have hl : (cs.take i).length = i := by rw [List.length_take]; omega
    have ef : cs.flatten = (cs.take i).flatten ++ (cs.drop i).flatten := by rw [← List.flatten_append, List.take_append_drop]
    refine ⟨.sl c 0 i sz, slice_to E.he E.hi E.hsz (Nat.le_of_lt hi), ⟨by rw [hl]; rfl, ?_⟩, hr2⟩
    have hl2 := hr2.len
    have := k.part (o := 0) (n := (cs.take i).flatten.length) (by rw [List.length_append, ef, List.length_append]; omega)
    rw [List.drop_zero, ef, List.append_assoc, List.take_left' rfl, hl2] at this
    rw [firstA_of_row (by omega)]
    exact this
theorem LsAt.drop (E : ElT P T e sz B) (k : LsAt e sz h v cs) {i : Nat} (hi : i < cs.length) : ∃ x, sliceA P h T v (some (.int .i64 ((i + 1 : Nat) : Int))) none = some (.val x, h) ∧ RdAt sz h x (cs.drop (i + 1)) := by
  obtain ⟨⟨rfl, rfl⟩ | ⟨c, rest, rfl, k, hc⟩, hr⟩ := k
  · exact absurd hi (Nat.not_lt_zero _)
  · have hr2 : RowsOk sz (cs.drop (i + 1)) := fun r h => hr r (List.mem_of_mem_drop h)
    by_cases hm : i + 1 = cs.length
    · refine ⟨.esl, ?_, ?_⟩
      · rw [hm]
        exact slice_end E.he E.hi E.hsz (by omega)
      · rw [List.drop_of_length_le (by omega)]
        exact ⟨⟨rfl, rfl⟩, fun r hr => nomatch hr⟩
    · have hl : (cs.drop (i + 1)).length = cs.length - (i + 1) := List.length_drop
      have hr3 : RowsOk sz (cs.take (i + 1)) := fun r h => hr r (List.mem_of_mem_take h)
      have hl3 : (cs.take (i + 1)).length = i + 1 := by rw [List.length_take]; omega
      have ef : cs.flatten = (cs.take (i + 1)).flatten ++ (cs.drop (i + 1)).flatten := by rw [← List.flatten_append, List.take_append_drop]
      refine ⟨.sl c (0 + (i + 1) * sz) (cs.length - (i + 1)) sz, slice_from E.he E.hi E.hsz (by omega) (by omega), ⟨by rw [hl]; rfl, ?_⟩, hr2⟩
      have hl2 := hr2.len
      have hl4 := hr3.len
      rw [hl3] at hl4
      have := k.part (o := (cs.take (i + 1)).flatten.length) (n := (cs.drop (i + 1)).flatten.length) (by rw [List.length_append, ef, List.length_append]; omega)
      rw [ef, List.append_assoc, List.drop_left' rfl, List.take_left' rfl, hl2, hl4] at this
      rw [firstA_of_row (by omega), Nat.zero_add]
      exact this
theorem app_nil (E : ElT P T e sz B) (k : RdAt sz h x cs) (hm : cs.length * B ≤ 1000000000) (hm2 : cs.length ≤ 1000000000) (hex : memB e h.ex = false) : ∃ v h', opAppend P h T T .nsl x = some (.val v, h') ∧ LsAt e sz h' v cs ∧ Tch [] h h' ∧ ∀ b ∈ blkV v, h.next ≤ b := by
  obtain ⟨⟨k1, k2⟩, hr⟩ := k
  have hfit := bytesFit_of (k := cs.length) E.fit hm hm2
  cases cs with
  | nil =>
    refine ⟨.nsl, h, ?_, ⟨.inl ⟨rfl, rfl⟩, hr⟩, Tch.refl _ _, fun _ h => nomatch h⟩
    have k1 : lenA x = some 0 := k1
    have k2 : firstA h sz 0 x = some [] := k2
    have hfit : bytesFit P e (0 + 0) = true := hfit
    have hu := E.hu
    have he := E.he
    have hsz := E.hsz
    unfold notInt at hu
    unfold opAppend
    have hl : lenA .nsl = some 0 := rfl
    split at hu
    · cases hu
    · rename_i ud hni heq
      simp only [he, hl, k1, heq, hsz, k2, hfit, hex, List.all_nil, and_self, if_true]
      rfl
    · cases hu
  | cons a l =>
    refine ⟨_, _, append_new (n := l.length) (news := (a :: l).flatten) E.he E.hu E.hsz k1 k2 hfit hr.one hex, ⟨.inr ⟨h.next, [], rfl, ?_, Nat.lt_succ_self _⟩, hr⟩, Tch.newH _ _ _ _, fun b hb => by rw [List.mem_singleton.1 hb]; exact Nat.le_refl _⟩
    rw [List.append_nil]
    exact RowH.new _ _ _
theorem app_on (E : ElT P T e sz B) (k : LsAt e sz h v ds) (kx : RdAt sz h x cs) (hm : (ds.length + cs.length) * B ≤ 1000000000) (hm2 : ds.length + cs.length ≤ 1000000000) (hex : memB e h.ex = false) : ∃ v' h', opAppend P h T T v x = some (.val v', h') ∧ LsAt e sz h' v' (ds ++ cs) ∧ Tch (blkV v) h h' ∧ ∀ b ∈ blkV v', b ∈ blkV v ∨ h.next ≤ b := by
  obtain ⟨⟨rfl, rfl⟩ | ⟨c, rest, rfl, h2, h3⟩, hr⟩ := k
  · rw [List.length_nil, Nat.zero_add] at hm hm2
    obtain ⟨v', h', a1, a2, a3, a4⟩ := app_nil E kx hm hm2 hex
    exact ⟨v', h', a1, a2, a3, fun b hb => .inr (a4 b hb)⟩
  · obtain ⟨⟨k1, k2⟩, hr2⟩ := kx
    have hfit := bytesFit_of (k := ds.length + cs.length) E.fit hm hm2
    cases cs with
    | nil =>
      refine ⟨_, h, append_zero (n := 0) E.he E.hu E.hsz rfl k1 k2 hfit hex, ⟨.inr ⟨c, rest, by rw [List.append_nil], by rw [List.append_nil]; exact h2, h3⟩, by rw [List.append_nil]; exact hr⟩, Tch.refl _ _, fun b hb => .inl hb⟩
    | cons a l =>
      have hl := hr.len
      have a1 := append_more (n := l.length) (cs := ds.flatten) (news := (a :: l).flatten) E.he E.hu E.hsz k1 k2 hfit hr2.one hex (b := c) (o := 0) (m := ds.length) (by
        have := h2.part (o := 0) (n := ds.flatten.length) (by rw [List.length_append]; omega)
        rw [List.drop_zero, List.take_left' rfl, hl] at this
        exact this) h2.type
      refine ⟨_, _, a1, ⟨.inr ⟨h.next, [], by rw [List.length_append, List.length_cons], ?_, Nat.lt_succ_self _⟩, hr.app hr2⟩, (Tch.put (S := [c]) (.inl (List.mem_singleton.2 rfl)) _).trans (Tch.newH _ _ _ _), fun b hb => .inr (by rw [List.mem_singleton.1 hb]; exact Nat.le_refl _)⟩
      rw [List.append_nil, List.flatten_append]
      exact RowH.new (h.put c .dead) _ _
end
/-- what turned lies elsewhere, and is new -/
theorem Mem.keepN {S S' : List Nat} {h0 h h' : AHeap} {rs : List RowT} (M : Mem S h0 h rs) (ht : Tch S' h h') (hS : ∀ b ∈ S', h0.next ≤ b ∧ ∀ x ∈ rs, x.1 ≠ b) : Mem S h0 h' rs := by
  have hle := ht.1
  refine ⟨fun x hx => ?_, M.apart, M.tch.trans' ht fun b hb => .inr (hS b hb).1⟩
  obtain ⟨h1, h2, h3⟩ := M.row x hx
  exact ⟨h1.tch ht h2 fun hm => (hS _ hm).2 x hx rfl, by omega, h3⟩
/-! ### letters and links -/
abbrev TArr : Nat := 84
abbrev TArrs : Nat := 28
abbrev TRef : Nat := 30
theorem elLet : ElT Try.prog TLets TLet 4 40 := ⟨by kernel_rfl, by kernel_rfl, by kernel_rfl, fitLt, by kernel_rfl⟩
theorem elArr : ElT Try.prog TArrs TArr 2 16 := ⟨by kernel_rfl, by kernel_rfl, by kernel_rfl, by kernel_rfl, by kernel_rfl⟩
noncomputable def prC (p : Int × Int) : List AV := [.int .i64 p.1, .int .i64 p.2]
def lk (p : Int × Int) : Int × Int := lnk p.1 p.2
section
variable {h : AHeap} {v : AV} {ls : List Lt}
theorem LAt.rows (k : LAt h v ls) : LsAt TLet 4 h v (ls.map letC) := by
  refine ⟨?_, fun r hr => ?_⟩
  · rcases k with ⟨rfl, rfl⟩ | ⟨c, rest, rfl, k, hc⟩
    · exact .inl ⟨rfl, rfl⟩
    · exact .inr ⟨c, rest, by rw [List.length_map], k, hc⟩
  · obtain ⟨l, _, rfl⟩ := List.mem_map.1 hr
    exact ⟨rfl, rfl⟩
theorem LsAt.la (k : LsAt TLet 4 h v (ls.map letC)) : LAt h v ls := by
  obtain ⟨⟨rfl, e⟩ | ⟨c, rest, rfl, k, hc⟩, _⟩ := k
  · exact .inl ⟨rfl, List.map_eq_nil_iff.1 e⟩
  · exact .inr ⟨c, rest, by rw [List.length_map], k, hc⟩
end
theorem idx2 (b m i : Nat) (h : i < m) : idxP 2 (.sl b 0 m 2) (i : Int) = some (.ptr b (0 + i * 2)) := by
  have e : Nat.blt i m = true := by simpa using h
  show (match Nat.blt i m with | true => some (AV.ptr b (0 + i * 2)) | false => none) = _
  rw [e]
def CAt (h : AHeap) (v : AV) (cs : List (Int × Int)) : Prop := LsAt TArr 2 h v (cs.map prC)
/-- what the reference's net holds -/
structure RefN (ro : Nat → Prop) (h : AHeap) (lv cv : AV) (s : NS) (cs : List (Int × Int)) : Prop where
  l : LAt h lv s.ls
  c : CAt h cv cs
  e : cs.map lk = s.cuts
  n : cs.length ≤ 1000000
  r1 : ∀ b ∈ blkV lv, ro b
  r2 : ∀ b ∈ blkV cv, ro b
  nw : ∀ b, h.next ≤ b → ro b
noncomputable def refC (lv cv : AV) (s : NS) : List AV := [lv, cv, .int .i64 (s.last : Int)]
def RAt (ro : Nat → Prop) (h : AHeap) (m : List AV) (s : NS) : Prop := ∃ lv cv cs, m = refC lv cv s ∧ RefN ro h lv cv s cs
/-! ### arrays of two, compared -/
def arrB (P : Program) (t te : TypeId) : Bool := (match P.underlying t with
  | some (.array n e) => Nat.beq n 2 && Nat.beq e te
  | _ => false) && (!(P.eqGuardType P.depth t) && (Nat.beq (P.cellsOf te) 1 && (Nat.beq (kindT P te) 1 && (P.info? te).isSome)))
theorem eq_arr {P : Program} {t te : TypeId} {x y a b : Int} (ht : arrB P t te = true) : eqOther P t (.agg [.int .i64 x, .int .i64 y]) (.agg [.int .i64 a, .int .i64 b]) = some (decide (x = a ∧ y = b)) := by
  unfold arrB at ht
  simp only [Bool.and_eq_true, Bool.not_eq_true'] at ht
  obtain ⟨h1, h2, h3, h4, h5⟩ := ht
  have h3 := Nat.eq_of_beq_eq_true h3
  have h4 := Nat.eq_of_beq_eq_true h4
  unfold eqOther
  simp only [h2, Bool.false_eq_true, if_false]
  unfold eqA
  cases hu : P.underlying t with
  | none => rw [hu] at h1; cases h1
  | some u =>
    rw [hu] at h1
    cases u <;> simp at h1
    rename_i nn ee
    obtain ⟨q1, q2⟩ := h1
    subst q1
    obtain rfl := q2.symm
    cases hi : P.info? te with
    | none => rw [hi] at h5; cases h5
    | some inf =>
      simp only [hi, h3]
      have ec : ∀ u w : Int, eqCell (.int .i64 u) (.int .i64 w) = some (u == w) := fun u w => by simp [eqCell]
      have e1 : eqA P 1998 te (.int .i64 x) (.int .i64 a) = some (x == a) := eqA_cell (d := 1997) (by rw [h4]; rfl) (ec _ _)
      have e2 : eqA P 1997 te (.int .i64 y) (.int .i64 b) = some (y == b) := eqA_cell (d := 1996) (by rw [h4]; rfl) (ec _ _)
      unfold eqElems
      rw [partA_cell (x := .int .i64 x) (by omega) rfl, partA_cell (x := .int .i64 a) (by omega) rfl]
      simp only
      rw [e1]
      by_cases hx : x = a
      · rw [show (x == a) = true by simpa using hx]
        simp only
        unfold eqElems
        rw [partA_cell (x := .int .i64 y) (by omega) rfl, partA_cell (x := .int .i64 b) (by omega) rfl]
        simp only
        rw [e2]
        by_cases hy : y = b
        · rw [show (y == b) = true by simpa using hy, decide_eq_true ⟨hx, hy⟩]
          simp only
          unfold eqElems
          rfl
        · rw [show (y == b) = false by simpa using hy, decide_eq_false (fun h => hy h.2)]
      · rw [show (x == a) = false by simpa using hx, decide_eq_false (fun h => hx h.1)]
theorem eqArr (x y a b : Int) : eqOther Try.prog TArr (.agg [.int .i64 x, .int .i64 y]) (.agg [.int .i64 a, .int .i64 b]) = some (decide (x = a ∧ y = b)) := eq_arr (te := 3) (by kernel_rfl)
theorem lnk_iff {a b c d : Int} : lnk a b = lnk c d ↔ (a = c ∧ b = d) ∨ (a = d ∧ b = c) := by
  unfold lnk
  rw [Prod.mk.injEq]
  constructor
  · intro ⟨h1, h2⟩
    split at h1 <;> split at h1 <;> split at h2 <;> split at h2 <;> omega
  · intro h
    constructor <;> split <;> split <;> omega
end Go.Proofs.Ythdkfofkghpmcaa
