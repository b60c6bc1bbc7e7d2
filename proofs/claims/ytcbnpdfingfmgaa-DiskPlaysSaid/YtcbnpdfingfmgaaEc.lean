/- The disk: its row; what is asked ahead of a step. -/
import Derived.Test.YtcbnpdfingfmgaaEb
namespace Go.Proofs.Ytcbnpdfingfmgaa
open Go.RowKit Abs
noncomputable def chgsC : List Chg → List AV
  | [] => []
  | c :: l => chgC c ++ chgsC l
theorem chgsC_len : ∀ l : List Chg, (chgsC l).length = 3 * l.length
  | [] => rfl
  | c :: l => by
    have := chgsC_len l
    rw [chgsC, List.length_append, this, List.length_cons]
    show 3 + _ = _
    omega
theorem chgsC_app : ∀ a b : List Chg, chgsC (a ++ b) = chgsC a ++ chgsC b
  | [], _ => rfl
  | c :: a, b => by rw [List.cons_append, chgsC, chgsC_app a b, chgsC, List.append_assoc]
/-- loose changes in memory -/
def LooseAt (h : AHeap) (v : AV) (l : List Chg) : Prop := (v = .nsl ∧ l = []) ∨ ∃ c, v = .sl c 0 l.length 3 ∧ RowH h c TChg (chgsC l) ∧ c < h.next
theorem fitChg : fitB Try.prog TChg 32 = true := by kernel_rfl
theorem bldSlChg (h : AHeap) (k : Int) (s : Bytes) (n : Int) : bldSl Try.prog h TChgs 1 [(0, .agg [.int .i64 k, strA s, .int .i64 n])] = outNewS h TChg [.int .i64 k, strA s, .int .i64 n] 1 3 := by kernel_rfl
theorem idx3 {b m i : Nat} (h : i < m) : idxP 3 (.sl b 0 m 3) (i : Int) = some (.ptr b (0 + i * 3)) := by
  have e : Nat.blt i m = true := by simpa using h
  show (match Nat.blt i m with | true => some (AV.ptr b (0 + i * 3)) | false => none) = _
  rw [e]
theorem firstRow {h : AHeap} {b e sz : Nat} {r : List AV} (kr : RowH h b e r) (hr : r.length = sz) : firstA h sz (0 + 1) (.sl b 0 1 sz) = some r := by
  rw [Nat.zero_add, firstA_of_row (Nat.le_refl _), Nat.one_mul]
  have := kr.part (o := 0) (n := r.length) (by omega)
  rw [List.drop_zero, List.take_length, hr] at this
  exact this
section
variable {h h' : AHeap} {v : AV} {l : List Chg} {b1 : Nat} {c : Chg}
theorem LooseAt.tch {S : List Nat} (k : LooseAt h v l) (t : Tch S h h') (hd : ∀ b ∈ blkV v, b ∉ S) : LooseAt h' v l := by
  rcases k with k | ⟨c, rfl, h2, h3⟩
  · exact .inl k
  · exact .inr ⟨c, rfl, h2.tch t h3 (hd c (List.mem_singleton.2 rfl)), Nat.lt_of_lt_of_le h3 t.1⟩
theorem LooseAt.lt (k : LooseAt h v l) : ∀ b ∈ blkV v, b < h.next := by
  rcases k with ⟨rfl, _⟩ | ⟨c, rfl, _, h3⟩
  · exact fun b hb => nomatch hb
  · intro b hb
    rw [List.mem_singleton.1 hb]
    exact h3
theorem LooseAt.one (k : LooseAt h v l) : v.one = true ∧ AV.cells v = [v] := by
  rcases k with ⟨rfl, rfl⟩ | ⟨c, rfl, _⟩ <;> exact ⟨rfl, rfl⟩
theorem chgs_ld {c i : Nat} {rest : List AV} (k : RowH h c TChg (chgsC l ++ rest)) (hi : i < l.length) : ldRow h 3 (.ptr c (0 + i * 3)) = some (chgC l[i]) := by
  have e : chgsC l = chgsC (l.take i) ++ (chgC l[i] ++ chgsC (l.drop (i + 1))) := by
    have := chgsC_app (l.take i) (l.drop i)
    rw [List.take_append_drop] at this
    rw [this, List.drop_eq_getElem_cons hi, chgsC]
  have hl : (chgsC (l.take i)).length = 0 + i * 3 := by rw [chgsC_len, List.length_take]; omega
  rw [k.ld (by rw [List.length_append, chgsC_len]; omega), e, List.append_assoc, List.append_assoc, List.drop_left' hl]
  congr 1
theorem LooseAt.rd {S : List Nat} (k : LooseAt h v l) (hS : ∀ b ∈ blkV v, b ∉ S) : RdL h S v l := by
  rcases k with ⟨rfl, rfl⟩ | ⟨c, rfl, h2, h3⟩
  · exact ⟨rfl, fun _ _ i hi => absurd hi (Nat.not_lt_zero _)⟩
  · refine ⟨rfl, fun H t i hi => ⟨_, idx3 hi, ?_⟩⟩
    have k2 := h2.tch t h3 (hS c (List.mem_singleton.2 rfl))
    exact chgs_ld (rest := []) (by rw [List.append_nil]; exact k2) hi
theorem LooseAt.push (k : LooseAt h v l) (kr : RowH h b1 TChg (chgC c)) (hm : l.length < 20000000) (hx : h.ex = []) :
    ∃ h', opAppend Try.prog h TChgs TChgs v (.sl b1 0 1 3) = some (.val (.sl h.next 0 (l.length + 1) 3), h') ∧ LooseAt h' (.sl h.next 0 (l.length + 1) 3) (l ++ [c]) ∧ Tch (blkV v) h h' := by
  have he : Abs.elemOf Try.prog TChgs = some TChg := by kernel_rfl
  have hu : notInt Try.prog TChgs = true := by kernel_rfl
  have hsz : Try.prog.cellsOf TChg = 3 := by kernel_rfl
  have hex : memB TChg h.ex = false := by rw [hx]; rfl
  have eb : chgsC (l ++ [c]) = chgsC l ++ chgC c := by
    rw [chgsC_app]
    show chgsC l ++ (chgC c ++ []) = _
    rw [List.append_nil]
  have el : l.length + 1 = (l ++ [c]).length := by rw [List.length_append, List.length_singleton]
  rcases k with ⟨rfl, rfl⟩ | ⟨b, rfl, h2, h3⟩
  · have a1 := append_new (P := Try.prog) (h := h) (t := TChgs) (u := TChgs) (n := 0) (x := .sl b1 0 1 3) he hu hsz rfl (firstRow kr rfl) (bytesFit_of fitChg (by omega) (by omega)) rfl hex
    refine ⟨_, a1, .inr ⟨h.next, by rw [el], ?_, Nat.lt_succ_self _⟩, Tch.newH _ _ _ _⟩
    rw [eb]
    exact RowH.new _ _ _
  · have hcl := chgsC_len l
    have a1 := append_more (P := Try.prog) (h := h) (t := TChgs) (u := TChgs) (b := b) (o := 0) (m := l.length) (n := 0) (x := .sl b1 0 1 3) (cs := chgsC l) he hu hsz rfl (firstRow kr rfl) (bytesFit_of fitChg (by omega) (by omega)) rfl hex (by
      have := h2.part (o := 0) (n := (chgsC l).length) (by omega)
      rw [List.drop_zero, List.take_length] at this
      rw [show l.length * 3 = (chgsC l).length by omega]
      exact this) h2.type
    refine ⟨_, a1, .inr ⟨h.next, by rw [el], ?_, Nat.lt_succ_self _⟩, (Tch.put (S := [b]) (.inl (List.mem_singleton.2 rfl)) _).trans (Tch.newH _ _ _ _)⟩
    rw [eb]
    exact RowH.new (h.put b .dead) _ _
end
/-! ### the disk -/
structure FileS where
  sure : Cont
  seen : Cont
  loose : List Chg
def upd {α : Type} (f : Nat → α) (i : Nat) (x : α) : Nat → α := fun j => if j = i then x else f j
def FileOk (x : FileS) (B : Nat) : Prop := x.seen = doL x.sure x.loose ∧ Legal x.sure x.loose ∧ x.sure.u.length + sumL x.loose ≤ B ∧ x.loose.length ≤ B
structure FileC (D : List AV) (f : Nat) (x : FileS) (w : Nat → AV) : Prop where
  c0 : D[5 * f]? = some (.bool x.sure.th)
  c1 : D[5 * f + 1]? = some (w 0)
  c2 : D[5 * f + 2]? = some (.bool x.seen.th)
  c3 : D[5 * f + 3]? = some (w 1)
  c4 : D[5 * f + 4]? = some (w 2)
structure FileM (h : AHeap) (x : FileS) (w : Nat → AV) : Prop where
  sure : BufAt h (w 0) x.sure.u
  seen : BufAt h (w 1) x.seen.u
  loose : LooseAt h (w 2) x.loose
structure DiskAt (lo : Nat → Prop) (h : AHeap) (db : Nat) (D : List AV) (fs : Nat → FileS) (vs : Nat → Nat → AV) (p : Int) (ops B : Nat) : Prop where
  row : RowH h db TDisk D
  hdb : db < h.next
  hlo : lo db
  len : D.length = 162
  cells : ∀ f, f < 32 → FileC D f (fs f) (vs f)
  cp : D[160]? = some (.int .i64 p)
  co : D[161]? = some (.int .i64 (ops : Int))
  mem : ∀ f, f < 32 → FileM h (fs f) (vs f)
  own : ∃ g : Nat → Nat, g db = 0 ∧ ∀ f k, f < 32 → k < 3 → ∀ b ∈ blkV (vs f k), g b = 3 * f + k + 1
  low : ∀ f k, f < 32 → k < 3 → ∀ b ∈ blkV (vs f k), lo b
  ok : ∀ f, f < 32 → FileOk (fs f) B
  ex : h.ex = []
  hp : -1 ≤ p ∧ p < 9223372036854775808
  ho : ops ≤ B
  nw : ∀ b, h.next ≤ b → lo b
theorem FileM.lt {h : AHeap} {x : FileS} {w : Nat → AV} (k : FileM h x w) : ∀ i, i < 3 → ∀ b ∈ blkV (w i), b < h.next := by
  intro i hi
  rcases i with _ | _ | _ | i
  · exact k.sure.lt
  · exact k.seen.lt
  · exact k.loose.lt
  · omega
theorem FileM.tch {h h' : AHeap} {S : List Nat} {x : FileS} {w : Nat → AV} (k : FileM h x w) (t : Tch S h h') (hS : ∀ i, i < 3 → ∀ b ∈ blkV (w i), b ∉ S) : FileM h' x w :=
  ⟨k.sure.tch t (hS 0 (by decide)), k.seen.tch t (hS 1 (by decide)), k.loose.tch t (hS 2 (by decide))⟩
section
variable {lo : Nat → Prop} {n d db : Nat} {h h' : AHeap} {D D' : List AV} {fs : Nat → FileS} {vs : Nat → Nat → AV} {p : Int} {ops B B' f : Nat}
theorem DiskAt.lt (K : DiskAt lo h db D fs vs p ops B) {f k : Nat} (hf : f < 32) (hk : k < 3) : ∀ b ∈ blkV (vs f k), b < h.next := (K.mem f hf).lt k hk
theorem DiskAt.nd (K : DiskAt lo h db D fs vs p ops B) {f k : Nat} (hf : f < 32) (hk : k < 3) : db ∉ blkV (vs f k) := fun hb => by
  obtain ⟨g, g0, g1⟩ := K.own
  have := g1 f k hf hk _ hb
  omega
theorem DiskAt.ne (K : DiskAt lo h db D fs vs p ops B) {f k f' k' : Nat} (hf : f < 32) (hk : k < 3) (hf' : f' < 32) (hk' : k' < 3) (hne : ¬ (f = f' ∧ k = k')) : ∀ b ∈ blkV (vs f k), b ∉ blkV (vs f' k') := fun b hb hb' => by
  obtain ⟨g, g0, g1⟩ := K.own
  have h1 := g1 f k hf hk _ hb
  have h2 := g1 f' k' hf' hk' _ hb'
  omega
theorem DiskAt.upd {S : List Nat} {x : FileS} {w : Nat → AV} (K : DiskAt lo h db D fs vs p ops B) (hf : f < 32) (t : Tch S h h') (hS : ∀ b ∈ S, b = db ∨ ∃ k, k < 3 ∧ b ∈ blkV (vs f k)) (row : RowH h' db TDisk D') (hlen : D'.length = 162) (hc : FileC D' f x w) (rest : ∀ i, (i < 5 * f ∨ 5 * f + 5 ≤ i) → D'[i]? = D[i]?)
    (bw : ∀ k, k < 3 → ∀ b ∈ blkV (w k), b ∈ blkV (vs f k) ∨ h.next ≤ b) (bd : ∀ k l, k < 3 → l < 3 → k ≠ l → ∀ b ∈ blkV (w k), b ∉ blkV (w l)) (hm : FileM h' x w) (hok : FileOk x B') (hB : B ≤ B') : DiskAt lo h' db D' (upd fs f x) (upd vs f w) p ops B' := by
  obtain ⟨g, g0, g1⟩ := K.own
  have hle := t.1
  have hdn := K.hdb
  have ot : ∀ f', f' < 32 → f' ≠ f → ∀ k, k < 3 → ∀ b ∈ blkV (vs f' k), b ∉ S := fun f' hf' hne k hk b hb hm => by
    rcases hS b hm with rfl | ⟨k', hk', hb'⟩
    · exact K.nd hf' hk hb
    · exact K.ne hf' hk hf hk' (fun h => hne h.1) b hb hb'
  refine ⟨row, Nat.lt_of_lt_of_le hdn hle, K.hlo, hlen, fun f' hf' => ?_, ?_, ?_, fun f' hf' => ?_, ⟨fun b => if b < h.next then g b else if b ∈ blkV (w 0) then 3 * f + 1 else if b ∈ blkV (w 1) then 3 * f + 2 else 3 * f + 3, ?_, fun f' k hf' hk b hb => ?_⟩, fun f' k hf' hk b hb => ?_, fun f' hf' => ?_, by rw [t.2.1, K.ex], K.hp, Nat.le_trans K.ho hB, fun b hb => K.nw b (Nat.le_trans hle hb)⟩
  · unfold Go.Proofs.Ytcbnpdfingfmgaa.upd
    by_cases e : f' = f
    · rw [if_pos e, if_pos e, e]
      exact hc
    · rw [if_neg e, if_neg e]
      have hk := K.cells f' hf'
      have key : ∀ j, j < 5 → D'[5 * f' + j]? = D[5 * f' + j]? := fun j hj => rest _ (by omega)
      exact ⟨(key 0 (by decide)).trans hk.c0, (key 1 (by decide)).trans hk.c1, (key 2 (by decide)).trans hk.c2, (key 3 (by decide)).trans hk.c3, (key 4 (by decide)).trans hk.c4⟩
  · rw [rest _ (by omega)]
    exact K.cp
  · rw [rest _ (by omega)]
    exact K.co
  · unfold Go.Proofs.Ytcbnpdfingfmgaa.upd
    by_cases e : f' = f
    · rw [if_pos e, if_pos e]
      exact hm
    · rw [if_neg e, if_neg e]
      exact (K.mem f' hf').tch t (ot f' hf' e)
  · show (if db < h.next then g db else _) = 0
    rw [if_pos hdn]
    exact g0
  · show (if b < h.next then g b else _) = _
    unfold Go.Proofs.Ytcbnpdfingfmgaa.upd at hb
    by_cases e : f' = f
    · rw [if_pos e] at hb
      subst e
      by_cases hl : b < h.next
      · rw [if_pos hl]
        rcases bw k hk b hb with hb' | hb'
        · exact g1 f' k hf' hk b hb'
        · omega
      · rw [if_neg hl]
        rcases k with _ | _ | _ | k
        · rw [if_pos hb]
        · rw [if_neg (bd 1 0 (by decide) (by decide) (by decide) b hb), if_pos hb]
        · rw [if_neg (bd 2 0 (by decide) (by decide) (by decide) b hb), if_neg (bd 2 1 (by decide) (by decide) (by decide) b hb)]
        · omega
    · rw [if_neg e] at hb
      rw [if_pos (K.lt hf' hk b hb)]
      exact g1 f' k hf' hk b hb
  · unfold Go.Proofs.Ytcbnpdfingfmgaa.upd at hb
    by_cases e : f' = f
    · rw [if_pos e] at hb
      rcases bw k hk b hb with hb' | hb'
      · exact K.low f k hf hk b hb'
      · exact K.nw b hb'
    · rw [if_neg e] at hb
      exact K.low f' k hf' hk b hb
  · unfold Go.Proofs.Ytcbnpdfingfmgaa.upd
    by_cases e : f' = f
    · rw [if_pos e]
      exact hok
    · rw [if_neg e]
      obtain ⟨o1, o2, o3, o4⟩ := K.ok f' hf'
      exact ⟨o1, o2, by omega, by omega⟩
/-- nothing of it has turned -/
theorem DiskAt.tch {S : List Nat} (K : DiskAt lo h db D fs vs p ops B) (t : Tch S h h') (hS : ∀ b ∈ S, ¬ lo b ∨ h.next ≤ b) : DiskAt lo h' db D fs vs p ops B := by
  have hd := K.hdb
  have hl := K.hlo
  refine ⟨K.row.tch t hd fun hb => ?_, Nat.lt_of_lt_of_le hd t.1, hl, K.len, K.cells, K.cp, K.co, fun f hf => (K.mem f hf).tch t fun k hk b hb hm => ?_, K.own, K.low, K.ok, by rw [t.2.1, K.ex], K.hp, K.ho, fun b hb => K.nw b (Nat.le_trans t.1 hb)⟩
  · rcases hS _ hb with hb | hb
    · exact hb hl
    · omega
  · have h2 := K.lt hf hk b hb
    rcases hS _ hm with hm | hm
    · exact hm (K.low f k hf hk b hb)
    · omega
theorem eqDisk (b o : Nat) (h : AHeap) : opBin Try.prog h .eql 23 true (some (.ptr b o)) (some AV.nilp) = some (.val (.bool false), h) := by kernel_rfl
theorem neqDisk (b o : Nat) (h : AHeap) : opBin Try.prog h .neq 23 true (some (.ptr b o)) (some AV.nilp) = some (.val (.bool true), h) := by kernel_rfl
def stepP (p : Int) : Int := if 0 < p then p - 1 else p
theorem step_ok (K : DiskAt lo h db D fs vs p ops B) (hB : B < 10000000) : ∃ h' D', world n (d + 1) 30 [.ptr db 0] h = some (.ret (.tup []), h') ∧ DiskAt lo h' db D' fs vs (stepP p) (ops + 1) (B + 1) ∧ Tch [db] h h' := by
  suffices hK : Wp (world n (d + 1) 30 [.ptr db 0] h) fun r h' => ∃ D', r = .ret (.tup []) ∧ DiskAt lo h' db D' fs vs (stepP p) (ops + 1) (B + 1) ∧ Tch [db] h h' by
    obtain ⟨_, h', e, D', rfl, k⟩ := hK
    exact ⟨h', D', e, k⟩
  rw [w_disk_Disk_step]
  unfold disk_Disk_step
  have hp := K.hp
  have ho := K.ho
  have hl := K.len
  have fin : ∀ {H : AHeap} {E : List AV}, RowH H db TDisk E → E.length = 162 → (∀ i, i < 160 → E[i]? = D[i]?) → E[160]? = some (.int .i64 (stepP p)) → E[161]? = some (.int .i64 ((ops + 1 : Nat) : Int)) → Tch [db] h H → DiskAt lo H db E fs vs (stepP p) (ops + 1) (B + 1) := by
    intro H E kr hE hr e1 e2 t
    refine ⟨kr, Nat.lt_of_lt_of_le K.hdb t.1, K.hlo, hE, fun f hf => ?_, e1, e2, fun f hf => (K.mem f hf).tch t fun k hk b hb hm => K.nd hf hk (List.mem_singleton.1 hm ▸ hb), K.own, K.low, fun f hf => ?_, by rw [t.2.1, K.ex], ?_, by omega, fun b hb => K.nw b (Nat.le_trans t.1 hb)⟩
    · have hk := K.cells f hf
      have key : ∀ j, j < 5 → E[5 * f + j]? = D[5 * f + j]? := fun j hj => hr _ (by omega)
      exact ⟨(key 0 (by decide)).trans hk.c0, (key 1 (by decide)).trans hk.c1, (key 2 (by decide)).trans hk.c2, (key 3 (by decide)).trans hk.c3, (key 4 (by decide)).trans hk.c4⟩
    · obtain ⟨o1, o2, o3, o4⟩ := K.ok f hf
      exact ⟨o1, o2, by omega, by omega⟩
    · unfold stepP
      split <;> omega
  have c1 := RowH.cell' K.row K.co
  refine Wp.obind (nilC_ptr _ _) (Wp.obind (fldP_ptr _ _ _) (Wp.obind c1 (Wp.obind (avInt_int _ _) ?_)))
  refine Wp.lettw (by omega) (by omega) ?_
  refine Wp.obind (nilC_ptr _ _) (Wp.obind (fldP_ptr _ _ _) ?_)
  refine Wp.st1 K.row (show 0 + 161 < D.length by omega) rfl fun h2 k2 t2 n2 => ?_
  have g0 : (D.set (0 + 161) (.int .i64 ((ops : Int) + 1)))[0 + 160]? = some (.int .i64 p) := by
    rw [List.getElem?_set_ne (by omega)]
    exact K.cp
  have g1 : (D.set (0 + 161) (.int .i64 ((ops : Int) + 1)))[161]? = some (.int .i64 ((ops + 1 : Nat) : Int)) := by
    rw [List.getElem?_set_self (by omega)]
    rfl
  refine Wp.obind (nilC_ptr _ _) (Wp.obind (fldP_ptr _ _ _) (Wp.obind (RowH.cell' k2 g0) (Wp.obind (avInt_int _ _) ?_)))
  refine Wp.lett ?_
  refine Wp.lettG fun k17 ek => ?_
  by_cases h0 : 0 < p
  · refine Wp.ift (by rw [decide_eq_true_eq]; exact h0) ?_
    refine Wp.obind (nilC_ptr _ _) (Wp.obind (fldP_ptr _ _ _) (Wp.obind (RowH.cell' k2 g0) (Wp.obind (avInt_int _ _) ?_)))
    refine Wp.lettw (by omega) (by omega) ?_
    refine Wp.obind (nilC_ptr _ _) (Wp.obind (fldP_ptr _ _ _) ?_)
    refine Wp.st1 k2 (show 0 + 160 < _ by rw [List.length_set]; omega) rfl fun h3 k3 t3 n3 => ?_
    rw [ek]
    refine Wp.ret ⟨_, rfl, fin k3 (by rw [List.length_set, List.length_set]; exact hl) (fun i hi => by rw [List.getElem?_set_ne (by omega), List.getElem?_set_ne (by omega)]) ?_ (by rw [List.getElem?_set_ne (by omega)]; exact g1) (t2.trans t3), t2.trans t3⟩
    rw [List.getElem?_set_self (by rw [List.length_set]; omega)]
    unfold stepP
    rw [if_pos h0]
  · refine Wp.iff (by rw [decide_eq_false_iff_not]; exact h0) ?_
    rw [ek]
    refine Wp.ret ⟨_, rfl, fin k2 (by rw [List.length_set]; exact hl) (fun i hi => by rw [List.getElem?_set_ne (by omega)]) ?_ g1 t2, t2⟩
    have g0' := g0
    rw [Nat.zero_add] at g0'
    unfold stepP
    rw [if_neg h0]
    exact g0'
theorem on_w (K : DiskAt lo h db D fs vs p ops B) : world n (d + 1) 18 [.ptr db 0] h = some (.ret (.bool (decide (p ≠ 0))), h) := by
  apply Wp.eq
  rw [w_disk_Disk_On]
  unfold disk_Disk_On
  have e : (p != 0) = decide (p ≠ 0) := by
    by_cases h0 : p = 0
    · subst h0
      rfl
    · rw [bne_iff_ne.2 h0, decide_eq_true h0]
  refine Wp.outK (neqDisk db 0 h) (Wp.obind (avBool_bool _) ?_)
  refine Wp.lettG fun j11 ej => ?_
  refine Wp.ift rfl ?_
  refine Wp.obind (nilC_ptr _ _) (Wp.obind (fldP_ptr _ _ _) (Wp.obind (RowH.cell' K.row (by rw [Nat.zero_add]; exact K.cp)) (Wp.obind (avInt_int _ _) ?_)))
  refine Wp.lett ?_
  rw [ej, e]
  exact Wp.ret ⟨rfl, rfl⟩
theorem ops_w (K : DiskAt lo h db D fs vs p ops B) : world n (d + 1) 19 [.ptr db 0] h = some (.ret (.int .i64 (ops : Int)), h) := by
  apply Wp.eq
  rw [w_disk_Disk_Ops]
  unfold disk_Disk_Ops
  refine Wp.outK (eqDisk db 0 h) (Wp.obind (avBool_bool _) (Wp.iff rfl ?_))
  refine Wp.obind (nilC_ptr _ _) (Wp.obind (fldP_ptr _ _ _) (Wp.obind (RowH.cell' K.row (by rw [Nat.zero_add]; exact K.co)) (Wp.obind (avInt_int _ _) ?_)))
  exact Wp.ret ⟨rfl, rfl⟩
theorem isFile_w (z : Int) : world n (d + 1) 31 [.int .i64 z] h = some (.ret (.bool (decide (0 ≤ z ∧ z < 32))), h) := by
  apply Wp.eq
  rw [w_disk_isFile]
  refine Wp.gc ?_
  suffices hK : Wp (disk_isFile (world n d) n z h) fun r h' => r = .ret (.bool (decide (0 ≤ z ∧ z < 32))) ∧ h' = h from hK.mono fun r h' ⟨e, t⟩ => ⟨by rw [t]; exact (Tch.refl [] h).above, by rw [e]; rfl, e, rfl⟩
  unfold disk_isFile
  refine Wp.lett ?_
  refine Wp.lettG fun j8 ej => ?_
  by_cases h0 : 0 ≤ z
  · refine Wp.ift (by rw [decide_eq_true_eq]; exact h0) ?_
    refine Wp.lett ?_
    rw [ej]
    have e : decide (z < 32) = decide (0 ≤ z ∧ z < 32) := decide_eq_decide.2 ⟨fun h => ⟨h0, h⟩, fun h => h.2⟩
    rw [e]
    exact Wp.ret ⟨rfl, rfl⟩
  · refine Wp.iff (by rw [decide_eq_false_iff_not]; exact h0) ?_
    rw [ej, decide_eq_false (show ¬ (0 ≤ z ∧ z < 32) from fun h => h0 h.1)]
    exact Wp.ret ⟨rfl, rfl⟩
/-- why nothing may be done with a file -/
def refP (p z : Int) : Int := if p = 0 then 40 else if 0 ≤ z ∧ z < 32 then 0 else 2
theorem refuses_w (K : DiskAt lo h db D fs vs p ops B) (z : Int) : world n (d + 2) 27 [.ptr db 0, .int .i64 z] h = some (.ret (.int .i64 (refP p z)), h) := by
  apply Wp.eq
  rw [w_disk_Disk_refuses]
  unfold disk_Disk_refuses
  refine Wp.outK (eqDisk db 0 h) (Wp.obind (avBool_bool _) (Wp.iff rfl ?_))
  refine Wp.callN (on_w K) (Wp.obind (avBool_bool _) ?_)
  unfold refP
  by_cases h0 : p = 0
  · rw [if_pos h0, decide_eq_false (show ¬ p ≠ 0 from fun h => h h0)]
    repeat (first | (with_reducible first | refine Wp.join0 (fun _ _ => ?_) | refine Wp.join1 (fun _ _ => ?_) | refine Wp.join2 (fun _ _ => ?_)) | ((with_reducible first | refine Wp.lettw ?_ ?_ ?_ | refine Wp.lettu64 ?_ ?_ ?_ | refine Wp.lettu8 ?_ ?_ ?_ | refine Wp.lettu32 ?_ ?_ ?_); omega; omega) | (with_reducible refine Wp.lett ?_) | ((with_reducible apply Wp.obind); first | (with_reducible first | exact avInt_int _ _ | exact avBool_bool _ | exact avStr_str _ | exact nilC_ptr _ _ | exact fldP_ptr _ _ _ | exact avAgg_agg _ | exact extT_0 _ _ | exact extT_1 _ _ _ | exact extT_2 _ _ _ _ | assumption) | ((with_reducible first | apply RowH.cell' | apply RowH.ldAll); (with_reducible assumption); rfl)) | ((with_reducible refine Wp.ift ?_ ?_); first | (with_reducible first | rfl | assumption | exact Bool.not_false) | ((with_reducible first | apply decide_eq_true | apply not_df | apply bne_t | apply beq_t); omega)) | ((with_reducible refine Wp.iff ?_ ?_); first | (with_reducible first | rfl | assumption | exact Bool.not_true) | ((with_reducible first | apply decide_eq_false | apply not_dt | apply bne_f | apply beq_f); omega)) | ((with_reducible first | apply Wp.callN | apply Wp.callK); (with_reducible assumption)) | ((with_reducible apply Wp.outK); (with_reducible assumption)) | (with_reducible first | refine Wp.go0 (by assumption) ?_ | refine Wp.go1 (by assumption) ?_ | refine Wp.go2 (by assumption) ?_) | rw [newP_eq])
    exact Wp.ret ⟨rfl, rfl⟩
  · rw [if_neg h0, decide_eq_true (show p ≠ 0 from h0)]
    refine Wp.lett (Wp.iff rfl ?_)
    refine Wp.callN (isFile_w z) (Wp.obind (avBool_bool _) ?_)
    by_cases h1 : 0 ≤ z ∧ z < 32
    · rw [if_pos h1, decide_eq_true h1]
      repeat (first | (with_reducible first | refine Wp.join0 (fun _ _ => ?_) | refine Wp.join1 (fun _ _ => ?_) | refine Wp.join2 (fun _ _ => ?_)) | ((with_reducible first | refine Wp.lettw ?_ ?_ ?_ | refine Wp.lettu64 ?_ ?_ ?_ | refine Wp.lettu8 ?_ ?_ ?_ | refine Wp.lettu32 ?_ ?_ ?_); omega; omega) | (with_reducible refine Wp.lett ?_) | ((with_reducible apply Wp.obind); first | (with_reducible first | exact avInt_int _ _ | exact avBool_bool _ | exact avStr_str _ | exact nilC_ptr _ _ | exact fldP_ptr _ _ _ | exact avAgg_agg _ | exact extT_0 _ _ | exact extT_1 _ _ _ | exact extT_2 _ _ _ _ | assumption) | ((with_reducible first | apply RowH.cell' | apply RowH.ldAll); (with_reducible assumption); rfl)) | ((with_reducible refine Wp.ift ?_ ?_); first | (with_reducible first | rfl | assumption | exact Bool.not_false) | ((with_reducible first | apply decide_eq_true | apply not_df | apply bne_t | apply beq_t); omega)) | ((with_reducible refine Wp.iff ?_ ?_); first | (with_reducible first | rfl | assumption | exact Bool.not_true) | ((with_reducible first | apply decide_eq_false | apply not_dt | apply bne_f | apply beq_f); omega)) | ((with_reducible first | apply Wp.callN | apply Wp.callK); (with_reducible assumption)) | ((with_reducible apply Wp.outK); (with_reducible assumption)) | (with_reducible first | refine Wp.go0 (by assumption) ?_ | refine Wp.go1 (by assumption) ?_ | refine Wp.go2 (by assumption) ?_) | rw [newP_eq])
      exact Wp.ret ⟨rfl, rfl⟩
    · rw [if_neg h1, decide_eq_false h1]
      repeat (first | (with_reducible first | refine Wp.join0 (fun _ _ => ?_) | refine Wp.join1 (fun _ _ => ?_) | refine Wp.join2 (fun _ _ => ?_)) | ((with_reducible first | refine Wp.lettw ?_ ?_ ?_ | refine Wp.lettu64 ?_ ?_ ?_ | refine Wp.lettu8 ?_ ?_ ?_ | refine Wp.lettu32 ?_ ?_ ?_); omega; omega) | (with_reducible refine Wp.lett ?_) | ((with_reducible apply Wp.obind); first | (with_reducible first | exact avInt_int _ _ | exact avBool_bool _ | exact avStr_str _ | exact nilC_ptr _ _ | exact fldP_ptr _ _ _ | exact avAgg_agg _ | exact extT_0 _ _ | exact extT_1 _ _ _ | exact extT_2 _ _ _ _ | assumption) | ((with_reducible first | apply RowH.cell' | apply RowH.ldAll); (with_reducible assumption); rfl)) | ((with_reducible refine Wp.ift ?_ ?_); first | (with_reducible first | rfl | assumption | exact Bool.not_false) | ((with_reducible first | apply decide_eq_true | apply not_df | apply bne_t | apply beq_t); omega)) | ((with_reducible refine Wp.iff ?_ ?_); first | (with_reducible first | rfl | assumption | exact Bool.not_true) | ((with_reducible first | apply decide_eq_false | apply not_dt | apply bne_f | apply beq_f); omega)) | ((with_reducible first | apply Wp.callN | apply Wp.callK); (with_reducible assumption)) | ((with_reducible apply Wp.outK); (with_reducible assumption)) | (with_reducible first | refine Wp.go0 (by assumption) ?_ | refine Wp.go1 (by assumption) ?_ | refine Wp.go2 (by assumption) ?_) | rw [newP_eq])
      exact Wp.ret ⟨rfl, rfl⟩
end
end Go.Proofs.Ytcbnpdfingfmgaa
