/- The disk: the calls that do steps, as one function of what a disk is. -/
import Derived.Test.YtcbnpdfingfmgaaEd
namespace Go.Proofs.Ytcbnpdfingfmgaa
open Go.RowKit Abs
structure DS where
  fs : Nat → FileS
  p : Int
  ops : Nat
def At (lo : Nat → Prop) (h : AHeap) (db : Nat) (s : DS) (B : Nat) : Prop := ∃ D vs, DiskAt lo h db D s.fs vs s.p s.ops B
/-- what is against a change of a file -/
def ownE (x : FileS) (c : Chg) : Int := if c.k = 0 then (if (1048576 : Int) - (x.seen.u.length : Int) < (c.s.length : Int) then 8 else 0) else if x.seen.th = false then 4 else if c.k = 1 ∧ (c.n < 0 ∨ (x.seen.u.length : Int) < c.n) then 5 else 0
def errP (s : DS) (z : Int) (c : Chg) : Int := if refP s.p z = 0 then ownE (s.fs z.toNat) c else refP s.p z
def actD (s : DS) (z : Int) (c : Chg) : DS := if errP s z c = 0 then ⟨upd s.fs z.toNat (moreF (s.fs z.toNat) c), stepP s.p, s.ops + 1⟩ else s
def synF (x : FileS) : FileS := ⟨x.seen, x.seen, []⟩
def synD (s : DS) (z : Int) : DS := if refP s.p z = 0 then ⟨upd s.fs z.toNat (synF (s.fs z.toNat)), stepP s.p, s.ops + 1⟩ else s
theorem ref_ok {p z : Int} (h : refP p z = 0) : p ≠ 0 ∧ ∃ f : Nat, z = (f : Int) ∧ f < 32 := by
  unfold refP at h
  split at h
  · omega
  · split at h
    · exact ⟨by assumption, z.toNat, by omega, by omega⟩
    · omega
section
variable {lo : Nat → Prop} {n d db : Nat} {h : AHeap} {D : List AV} {fs : Nat → FileS} {vs : Nat → Nat → AV} {p : Int} {ops B f : Nat} {s : DS}
theorem DiskAt.mono {B' : Nat} (K : DiskAt lo h db D fs vs p ops B) (hB : B ≤ B') : DiskAt lo h db D fs vs p ops B' :=
  ⟨K.row, K.hdb, K.hlo, K.len, K.cells, K.cp, K.co, K.mem, K.own, K.low, fun f hf => by obtain ⟨o1, o2, o3, o4⟩ := K.ok f hf; exact ⟨o1, o2, by omega, by omega⟩, K.ex, K.hp, by have := K.ho; omega, K.nw⟩
theorem At.mono {B' : Nat} (K : At lo h db s B) (hB : B ≤ B') : At lo h db s B' := by
  obtain ⟨D, vs, K⟩ := K
  exact ⟨D, vs, K.mono hB⟩
theorem At.ex (K : At lo h db s B) : h.ex = [] := by
  obtain ⟨D, vs, K⟩ := K
  exact K.ex
theorem At.tch {S : List Nat} {h' : AHeap} (K : At lo h db s B) (t : Tch S h h') (hS : ∀ b ∈ S, ¬ lo b ∨ h.next ≤ b) : At lo h' db s B := by
  obtain ⟨D, vs, K⟩ := K
  exact ⟨D, vs, K.tch t hS⟩
/-- another one's blocks, too, are not its own -/
theorem At.part {S : List Nat} {h' : AHeap} (K : At lo h db s B) (t : Tch S h h') (hS : ∀ b ∈ S, ¬ lo b ∨ h.next ≤ b) : At (fun b => lo b ∧ (b < h.next ∨ h'.next ≤ b)) h' db s B := by
  obtain ⟨D, vs, K⟩ := K
  have K' := K.tch t hS
  exact ⟨D, vs, K'.row, K'.hdb, ⟨K'.hlo, .inl K.hdb⟩, K'.len, K'.cells, K'.cp, K'.co, K'.mem, K'.own, fun f k hf hk b hb => ⟨K'.low f k hf hk b hb, .inl (K.lt hf hk b hb)⟩, K'.ok, K'.ex, K'.hp, K'.ho, fun b hb => ⟨K'.nw b hb, .inr hb⟩⟩
/-- what a call that does a step comes to -/
def Does (lo : Nat → Prop) (db : Nat) (h : AHeap) (x : R) (e : Int) (s' : DS) (B' : Nat) : Prop := ∃ h' S, x = some (.ret (.int .i64 e), h') ∧ At lo h' db s' B' ∧ Tch S h h' ∧ ∀ b ∈ S, lo b
theorem Does.of {x : R} {e : Int} {s' : DS} {B' : Nat} (k : Wp x fun r h' => r = .ret (.int .i64 e) ∧ ∃ S, At lo h' db s' B' ∧ Tch S h h' ∧ ∀ b ∈ S, lo b) : Does lo db h x e s' B' := by
  obtain ⟨_, h', e, rfl, S, k⟩ := k
  exact ⟨h', S, e, k⟩
theorem err_ok {f : Nat} {c : Chg} (h0 : refP s.p (f : Int) = 0) : errP s (f : Int) c = ownE (s.fs f) c := by
  unfold errP
  rw [if_pos h0, Int.toNat_natCast]
theorem act_ok {f : Nat} {c : Chg} (h0 : refP s.p (f : Int) = 0) (h1 : ownE (s.fs f) c = 0) : actD s (f : Int) c = ⟨upd s.fs f (moreF (s.fs f) c), stepP s.p, s.ops + 1⟩ := by
  unfold actD
  rw [err_ok h0, if_pos h1, Int.toNat_natCast]
theorem act_no {z : Int} {c : Chg} (h1 : errP s z c ≠ 0) : actD s z c = s := by
  unfold actD
  rw [if_neg h1]
theorem err_ref {z : Int} {c : Chg} (h0 : refP s.p z ≠ 0) : errP s z c = refP s.p z := by
  unfold errP
  rw [if_neg h0]
theorem append_ok {u : Bytes} {z : Int} (hn : 1000000 < n) (K : At lo h db s B) (hb : B + u.length < 9000000) : Does lo db h (world n (d + 3) 9 [.ptr db 0, .int .i64 z, strA u] h) (errP s z ⟨0, u, 0⟩) (actD s z ⟨0, u, 0⟩) (B + u.length + 2) := by
  apply Does.of
  have KA := K
  obtain ⟨D, vs, K⟩ := K
  rw [w_disk_Disk_Append]
  unfold disk_Disk_Append
  refine Wp.callN (refuses_w K z) (Wp.obind (avInt_int _ _) (Wp.lett ?_))
  by_cases h0 : refP s.p z = 0
  · obtain ⟨hp, f, rfl, hf⟩ := ref_ok h0
    have C := K.cells f hf
    have Mf := K.mem f hf
    obtain ⟨o1, o2, o3, o4⟩ := K.ok f hf
    have hsl := doL_len (s.fs f).loose (s.fs f).sure
    rw [← o1] at hsl
    refine Wp.iff (bne_f h0) ?_
    refine Wp.obind (nilC_ptr _ _) (Wp.obind (fldP_ptr _ _ _) (Wp.obind (idxF hf) (Wp.obind (fldP_ptr _ _ _) (Wp.obind (fldP_ptr _ _ _) (Wp.obind (RowH.cell' K.row C.c3) (Wp.obind Mf.seen.len ?_))))))
    refine Wp.lettw (by omega) (by omega) ?_
    have hlu := lenS_nat u
    have hown : ownE (s.fs f) ⟨0, u, 0⟩ = if (1048576 : Int) - ((s.fs f).seen.u.length : Int) < (u.length : Int) then 8 else 0 := by
      unfold ownE
      rw [if_pos rfl]
    refine Wp.lett ?_
    by_cases h1 : (1048576 : Int) - ((s.fs f).seen.u.length : Int) < (u.length : Int)
    · rw [if_pos h1] at hown
      have he := (err_ok h0).trans hown
      rw [act_no (by omega), he]
      refine Wp.ift (by rw [decide_eq_true_eq]; omega) ?_
      exact Wp.ret ⟨rfl, [], KA.mono (by omega), Tch.refl _ _, fun _ h => nomatch h⟩
    · rw [if_neg h1] at hown
      rw [(err_ok h0).trans hown, act_ok h0 hown]
      refine Wp.iff (by rw [decide_eq_false_iff_not]; omega) ?_
      obtain ⟨h', D', vs', S, e, K', t, hS⟩ := change_ok (n := n) (d := d) hn K hf (c := ⟨0, u, 0⟩) (.inl rfl) hb
      refine Wp.callN e (Wp.obind (avInt_int _ _) ?_)
      exact Wp.ret ⟨rfl, S, ⟨D', vs', K'⟩, t, hS⟩
  · rw [act_no (by rw [err_ref h0]; exact h0), err_ref h0]
    refine Wp.ift (bne_t h0) ?_
    exact Wp.ret ⟨rfl, [], KA.mono (by omega), Tch.refl _ _, fun _ h => nomatch h⟩
theorem cut_ok {z m : Int} (hn : 1000000 < n) (K : At lo h db s B) (hb : B < 9000000) : Does lo db h (world n (d + 3) 15 [.ptr db 0, .int .i64 z, .int .i64 m] h) (errP s z ⟨1, [], m⟩) (actD s z ⟨1, [], m⟩) (B + 2) := by
  apply Does.of
  have KA := K
  obtain ⟨D, vs, K⟩ := K
  rw [w_disk_Disk_Cut]
  unfold disk_Disk_Cut
  refine Wp.callN (refuses_w K z) (Wp.obind (avInt_int _ _) (Wp.lett ?_))
  by_cases h0 : refP s.p z = 0
  · obtain ⟨hp, f, rfl, hf⟩ := ref_ok h0
    have C := K.cells f hf
    have Mf := K.mem f hf
    have hlen := Mf.seen.len
    refine Wp.iff (bne_f h0) ?_
    refine Wp.obind (nilC_ptr _ _) (Wp.obind (fldP_ptr _ _ _) (Wp.obind (idxF hf) (Wp.obind (fldP_ptr _ _ _) (Wp.obind (nilC_ptr _ _) (Wp.obind (fldP_ptr _ _ _) (Wp.obind (RowH.cell' K.row C.c2) (Wp.obind (avBool_bool _) (Wp.lett ?_))))))))
    have hown : ownE (s.fs f) ⟨1, [], m⟩ = if (s.fs f).seen.th = false then 4 else if m < 0 ∨ ((s.fs f).seen.u.length : Int) < m then 5 else 0 := by
      unfold ownE
      rw [if_neg (show ¬ (1 : Nat) = 0 by omega)]
      simp only [true_and]
    cases hth : (s.fs f).seen.th with
    | false =>
      rw [hth, if_pos rfl] at hown
      have he := (err_ok h0).trans hown
      rw [act_no (by omega), he]
      refine Wp.ift rfl ?_
      exact Wp.ret ⟨rfl, [], KA.mono (by omega), Tch.refl _ _, fun _ h => nomatch h⟩
    | true =>
      rw [hth, if_neg (by decide)] at hown
      refine Wp.iff rfl (Wp.lett (Wp.lettG fun j ej => ?_))
      have bad : (m < 0 ∨ ((s.fs f).seen.u.length : Int) < m) → ∀ H, H = h → Wp (j true H) fun r h' => r = .ret (.int .i64 (errP s (f : Int) ⟨1, [], m⟩)) ∧ ∃ S, At lo h' db (actD s (f : Int) ⟨1, [], m⟩) (B + 2) ∧ Tch S h h' ∧ ∀ b ∈ S, lo b := by
        intro h1 H hH
        rw [if_pos h1] at hown
        have he := (err_ok h0).trans hown
        rw [act_no (by omega), he, ej, hH]
        refine Wp.ift rfl ?_
        exact Wp.ret ⟨rfl, [], KA.mono (by omega), Tch.refl _ _, fun _ h => nomatch h⟩
      by_cases h1 : m < 0
      · refine Wp.ift (by rw [decide_eq_true_eq]; exact h1) ?_
        exact bad (.inl h1) _ rfl
      · refine Wp.iff (by rw [decide_eq_false_iff_not]; exact h1) ?_
        have step2 : ∀ k : AV → R, (Wp (k (vs f 1)) fun r h' => r = .ret (.int .i64 (errP s (f : Int) ⟨1, [], m⟩)) ∧ ∃ S, At lo h' db (actD s (f : Int) ⟨1, [], m⟩) (B + 2) ∧ Tch S h h' ∧ ∀ b ∈ S, lo b) → Wp (Abs.obind (ldCell h (.ptr db (5 * f + 2 + 1))) k) fun r h' => r = .ret (.int .i64 (errP s (f : Int) ⟨1, [], m⟩)) ∧ ∃ S, At lo h' db (actD s (f : Int) ⟨1, [], m⟩) (B + 2) ∧ Tch S h h' ∧ ∀ b ∈ S, lo b := fun k hk => Wp.obind (RowH.cell' K.row C.c3) hk
        refine Wp.obind (nilC_ptr _ _) (Wp.obind (fldP_ptr _ _ _) (step2 _ (Wp.obind hlen (Wp.lett ?_))))
        by_cases h2 : ((s.fs f).seen.u.length : Int) < m
        · rw [decide_eq_true (show m > ((s.fs f).seen.u.length : Int) from h2)]
          exact bad (.inr h2) _ rfl
        · rw [decide_eq_false (show ¬ m > ((s.fs f).seen.u.length : Int) from h2), ej]
          rw [if_neg (by omega)] at hown
          rw [(err_ok h0).trans hown, act_ok h0 hown]
          refine Wp.iff rfl ?_
          obtain ⟨h', D', vs', S, e, K', t, hS⟩ := change_ok (n := n) (d := d) hn K hf (c := ⟨1, [], m⟩) (.inr (.inl ⟨rfl, (show (0 : Int) ≤ m by omega), (show m ≤ ((s.fs f).seen.u.length : Int) by omega)⟩)) (by show B + 0 < _; omega)
          refine Wp.callN e (Wp.obind (avInt_int _ _) ?_)
          exact Wp.ret ⟨rfl, S, ⟨D', vs', K'⟩, t, hS⟩
  · rw [act_no (by rw [err_ref h0]; exact h0), err_ref h0]
    refine Wp.ift (bne_t h0) ?_
    exact Wp.ret ⟨rfl, [], KA.mono (by omega), Tch.refl _ _, fun _ h => nomatch h⟩
theorem remove_ok {z : Int} (hn : 1000000 < n) (K : At lo h db s B) (hb : B < 9000000) : Does lo db h (world n (d + 3) 16 [.ptr db 0, .int .i64 z] h) (errP s z ⟨2, [], 0⟩) (actD s z ⟨2, [], 0⟩) (B + 2) := by
  apply Does.of
  have KA := K
  obtain ⟨D, vs, K⟩ := K
  rw [w_disk_Disk_Remove]
  unfold disk_Disk_Remove
  refine Wp.callN (refuses_w K z) (Wp.obind (avInt_int _ _) (Wp.lett ?_))
  by_cases h0 : refP s.p z = 0
  · obtain ⟨hp, f, rfl, hf⟩ := ref_ok h0
    have C := K.cells f hf
    have hown : ownE (s.fs f) ⟨2, [], 0⟩ = if (s.fs f).seen.th = false then 4 else 0 := by
      unfold ownE
      rw [if_neg (show ¬ (2 : Nat) = 0 by omega)]
      split
      · rfl
      · rw [if_neg (fun h => absurd h.1 (by decide))]
    refine Wp.iff (bne_f h0) ?_
    refine Wp.obind (nilC_ptr _ _) (Wp.obind (fldP_ptr _ _ _) (Wp.obind (idxF hf) (Wp.obind (fldP_ptr _ _ _) (Wp.obind (fldP_ptr _ _ _) (Wp.obind (RowH.cell' K.row C.c2) (Wp.obind (avBool_bool _) (Wp.lett ?_)))))))
    cases hth : (s.fs f).seen.th with
    | false =>
      rw [hth, if_pos rfl] at hown
      have he := (err_ok h0).trans hown
      rw [act_no (by omega), he]
      refine Wp.ift rfl ?_
      exact Wp.ret ⟨rfl, [], KA.mono (by omega), Tch.refl _ _, fun _ h => nomatch h⟩
    | true =>
      rw [hth, if_neg (by decide)] at hown
      rw [(err_ok h0).trans hown, act_ok h0 hown]
      refine Wp.iff rfl ?_
      obtain ⟨h', D', vs', S, e, K', t, hS⟩ := change_ok (n := n) (d := d) hn K hf (c := ⟨2, [], 0⟩) (.inr (.inr rfl)) (by show B + 0 < _; omega)
      refine Wp.callN e (Wp.obind (avInt_int _ _) ?_)
      exact Wp.ret ⟨rfl, S, ⟨D', vs', K'⟩, t, hS⟩
  · rw [act_no (by rw [err_ref h0]; exact h0), err_ref h0]
    refine Wp.ift (bne_t h0) ?_
    exact Wp.ret ⟨rfl, [], KA.mono (by omega), Tch.refl _ _, fun _ h => nomatch h⟩
end
end Go.Proofs.Ytcbnpdfingfmgaa
