/- What snapKept_proved stands on, part 8 of 8. -/
import Derived.Test.YtpnccmlajhhpdaaSK7
namespace Go.Proofs.Ytpnccmlajhhpdaa
open Go.RowKit Abs
def Turns (lo : Nat → Prop) (db : Nat) (h : AHeap) (x : R) (e : Int) (s' : DS) (B' : Nat) : Prop := ∃ h' S lo', x = some (.ret (.int .i64 e), h') ∧ At lo' h' db s' B' ∧ Tch S h h' ∧ (∀ b ∈ S, lo b) ∧ ∀ b, lo' b → lo b
theorem Turns.of {lo : Nat → Prop} {db : Nat} {h : AHeap} {x : R} {e : Int} {s' : DS} {B' : Nat} (k : Wp x fun r h' => r = .ret (.int .i64 e) ∧ ∃ S lo', At lo' h' db s' B' ∧ Tch S h h' ∧ (∀ b ∈ S, lo b) ∧ ∀ b, lo' b → lo b) : Turns lo db h x e s' B' := by
 obtain ⟨_, h', e, rfl, S, lo', k⟩ := k
 exact ⟨h', S, lo', e, k⟩
section
variable {n d D db B : Nat} {lo : Nat → Prop} {H : AHeap} {s : DS} {u : Bytes} {m : Mk}
theorem replace_w (hn : 1000000 < n) (K : At lo H db s B) (hB : B + u.length < 800000) {f : Nat} (hf : f < 32) : Turns lo db H (wL n (D + 6) (d + 7) false 42 [.ptr db 0, .int .i64 (f : Int), strA u] H) (repD s f u).1 (repD s f u).2 (B + u.length + 5) := by
 obtain ⟨h2, v, e2, t2, i2, _⟩ := files_a (n := n) (d := D + 5) K hn
 have K2 := K.part t2 (fun _ h => nomatch h)
 have ll := filesL_le s 32
 have ec := contains_w (n := n) (d := D + 4) i2 (by omega) hn (f : Int)
 suffices hK : Wp (snap_replace (wL n (D + 6) (d + 6) false) n (.ptr db 0) (f : Int) u H) fun r h' => r = .ret (.int .i64 (repD s f u).1) ∧ ∃ S lo', At lo' h' db (repD s f u).2 (B + u.length + 5) ∧ Tch S H h' ∧ (∀ b ∈ S, lo b) ∧ ∀ b, lo' b → lo b by
  obtain ⟨_, H', e, rfl, S, lo', k⟩ := hK
  exact ⟨H', S, lo', wL_snap_replace n (D + 6) (d + 6) _ _ _ e, k⟩
 unfold snap_replace
 refine Wp.callN ((wL_b 17).trans e2) (Wp.callN ((wL_b 62).trans ec) (Wp.obind (avBool_bool _) (Wp.lettG fun k9 e9 => ?_)))
 have go : ∀ (s1 : DS) (B1 : Nat) (H1 : AHeap) (S1 : List Nat) (lo2 : Nat → Prop), At lo2 H1 db s1 B1 → Tch S1 H H1 → (∀ b ∈ S1, lo b) → (∀ b, lo2 b → lo b) → B1 ≤ B + 2 → repD s f u = repE s1 f u → Wp (k9 H1) fun r h' => r = .ret (.int .i64 (repD s f u).1) ∧ ∃ S lo', At lo' h' db (repD s f u).2 (B + u.length + 5) ∧ Tch S H h' ∧ (∀ b ∈ S, lo b) ∧ ∀ b, lo' b → lo b := fun s1 B1 H1 S1 lo2 K1 T1 hS1 hl2 hB1 hr => by
  rw [e9, hr]
  dsimp only
  obtain ⟨h3, S3, e3, K3, t3, hS3⟩ := append_ok (n := n) (d := D + 3) (u := u) (z := (f : Int)) hn K1 (by omega)
  have T3 := (T1.mono (S' := S1 ++ S3) fun _ hb => .inl (List.mem_append_left _ hb)).trans (t3.mono fun _ hb => .inl (List.mem_append_right _ hb))
  have hS13 : ∀ b ∈ S1 ++ S3, lo b := fun b hb => (List.mem_append.1 hb).elim (hS1 b) fun h => hl2 b (hS3 b h)
  refine Wp.callN ((wL_b 26).trans e3) (Wp.obind (avInt_int _ _) (Wp.lett ?_))
  have hc : chA u = ⟨0, u, 0⟩ := rfl
  rw [← hc] at K3 ⊢
  unfold repE
  by_cases h0 : errP s1 (f : Int) (chA u) ≠ 0
  ·rw [if_pos h0]
   exact Wp.ift (bne_t h0) (Wp.ret ⟨rfl, _, _, K3.mono (by omega), T3, hS13, hl2⟩)
  ·rw [if_neg h0]
   obtain ⟨h4, S4, e4, K4, t4, hS4⟩ := sync_ok (n := n) (d := D + 3) (z := (f : Int)) hn K3 (by omega)
   refine Wp.iff (bne_f (Classical.not_not.1 h0)) (Wp.callN ((wL_b 64).trans e4) (Wp.obind (avInt_int _ _) (Wp.ret ⟨rfl, _, _, K4.mono (by omega), (T3.mono (S' := (S1 ++ S3) ++ S4) fun _ hb => .inl (List.mem_append_left _ hb)).trans (t4.mono fun _ hb => .inl (List.mem_append_right _ hb)), fun b hb => (List.mem_append.1 hb).elim (hS13 b) fun h => hl2 b (hS4 b h), hl2⟩)))
 by_cases hth : (s.fs f).seen.th = true
 ·rw [decide_eq_true ((filesL_mem s f 32).2 ⟨hf, hth⟩)]
  obtain ⟨h3, S3, e3, K3, t3, hS3⟩ := remove_ok (n := n) (d := D + 3) (z := (f : Int)) hn K2 (by omega)
  refine Wp.ift rfl (Wp.callN ((wL_b 63).trans e3) (Wp.obind (avInt_int _ _) (Wp.lett ?_)))
  have hc : chR = ⟨2, [], 0⟩ := rfl
  rw [← hc] at K3 ⊢
  have T3 : Tch S3 H h3 := (t2.mono fun _ h => nomatch h).trans t3
  by_cases h0 : errP s (f : Int) chR ≠ 0
  ·have hr : repD s f u = (errP s (f : Int) chR, actD s (f : Int) chR) := by
    unfold repD
    rw [if_pos hth, if_pos h0]
   rw [hr]
   exact Wp.ift (bne_t h0) (Wp.ret ⟨rfl, _, _, K3.mono (by omega), T3, fun b hb => (hS3 b hb).1, fun b hb => hb.1⟩)
  ·refine Wp.iff (bne_f (Classical.not_not.1 h0)) (go _ _ _ _ _ K3 T3 (fun b hb => (hS3 b hb).1) (fun b hb => hb.1) (Nat.le_refl _) ?_)
   unfold repD
   rw [if_pos hth, if_neg h0]
 ·rw [decide_eq_false fun h => hth ((filesL_mem s f 32).1 h).2]
  refine Wp.iff rfl (go _ _ _ _ _ K2 t2 (fun _ h => nomatch h) (fun b hb => hb.1) (by omega) ?_)
  unfold repD
  rw [if_neg hth]
theorem Save_w (K : At lo H db s B) (hB : B + (snapB m u).length < 800000) (hu : u.length ≤ 1000000000) (hF2 : FineC (s.fs 2)) (hF3 : FineC (s.fs 3)) (hn : 2000000000 < n) : Turns lo db H (wL n (D + 6) (d + 8) false 15 [.ptr db 0, .agg (mkC m), strA u] H) (saveD s m u).1 (saveD s m u).2 (B + (snapB m u).length + 5) := by
 suffices hK : Wp (snap_Save (wL n (D + 6) (d + 7) false) n (.ptr db 0) (mkC m) u H) fun r h' => r = .ret (.int .i64 (saveD s m u).1) ∧ ∃ S lo', At lo' h' db (saveD s m u).2 (B + (snapB m u).length + 5) ∧ Tch S H h' ∧ (∀ b ∈ S, lo b) ∧ ∀ b, lo' b → lo b by
  obtain ⟨_, H', e, rfl, S, lo', k⟩ := hK
  exact ⟨H', S, lo', wL_snap_Save n (D + 6) (d + 7) _ _ _ e, k⟩
 have hz2 := K.seen_len (z := 2) (by decide)
 have hz3 := K.seen_len (z := 3) (by decide)
 unfold snap_Save
 refine Wp.mbox (Mem.nil [] H) rfl fun h2 M2 => ?_
 have kr2 := M2.at0.1
 have l2 := M2.at0.2.1
 have t2 := M2.tch
 have K2 := K.part t2 (fun _ h => nomatch h)
 have er := ready_w (n := n) (D := D) (d := d + 6) K2
 refine Wp.callN er (Wp.obind (avInt_int _ _) (Wp.lett ?_))
 have stop : ∀ e : Int, saveD s m u = (e, s) → ∀ h', Tch [] H h' → (At (fun b => lo b ∧ (b < H.next ∨ h'.next ≤ b)) h' db s B) → Wp (some (.ret (.int .i64 e), h')) fun r h' => r = .ret (.int .i64 (saveD s m u).1) ∧ ∃ S lo', At lo' h' db (saveD s m u).2 (B + (snapB m u).length + 5) ∧ Tch S H h' ∧ (∀ b ∈ S, lo b) ∧ ∀ b, lo' b → lo b := fun e hs h' T K' => by
  rw [hs]
  exact Wp.ret ⟨rfl, [], _, K'.mono (by omega), T, (fun _ h => nomatch h), fun b hb => hb.1⟩
 by_cases hp : s.p = 0
 ·rw [if_pos hp]
  exact Wp.ift rfl (stop 40 (if_pos hp) h2 t2 K2)
 rw [if_neg hp]
 refine Wp.iff rfl (Wp.lr0 M2 rfl (Wp.callN ((wL_b 41).trans (mark_w (n := n) (d := D + 5) (m := m))) (Wp.obind (avBool_bool _) (Wp.lett ?_))))
 by_cases hm : mkOk m
 case neg =>
  rw [decide_eq_false hm]
  refine Wp.ift rfl (stop 2 ?_ h2 t2 K2)
  unfold saveD
  rw [if_neg hp, if_pos hm]
 rw [decide_eq_true hm]
 have lu := lenS_nat u
 refine Wp.iff rfl (Wp.lett ?_)
 by_cases hul : u.length > 262144
 ·refine Wp.ift (by rw [decide_eq_true_eq]; omega) (stop 3 ?_ h2 t2 K2)
  unfold saveD
  rw [if_neg hp, if_neg (fun h => h hm), if_pos hul]
 refine Wp.iff (by rw [decide_eq_false_iff_not]; omega) ?_
 obtain ⟨h3, e3, t3⟩ := look_w (n := n) (D := D) (d := d + 1) K2 hp (by omega) (by omega) hF2 hF3 hn
 refine Wp.callK e3 (Wp.obind (avAgg_agg _) (Wp.mnew (Mem.nil [] h3) fun h4 M4 => ?_))
 rw [newP_eq h3]
 refine Wp.sa0 M4 rfl rfl rfl fun h5 M5 => Wp.lr0 M5 rfl ?_
 have t5 := M5.tch
 have k5 := M5.at0.1
 have l5 := M5.at0.2.1
 obtain ⟨p, p1, p2⟩ := best_ld k5
 refine Wp.callN ((wL_b 40).trans (newest_w (n := n) (d := D + 5) 2 3 (ofC (s.fs 2)) (ofC (s.fs 3)))) (Wp.obind (avInt_int _ _) (Wp.obind p1 (Wp.obind p2 (Wp.mnew (Mem.nil [] h5) fun h6 M6 => ?_))))
 rw [newP_eq h5]
 refine Wp.sa0 M6 rfl rfl rfl fun h7 M7 => ?_
 have t7 := M7.tch
 have k7 := M7.at0.1
 have T27 := (t3.trans t5).trans t7
 have T7 := t2.trans T27
 have kr7 := ((kr2.tch t3 l2 (fun h => nomatch h)).tch t5 (by have := t3.1; omega) (fun h => nomatch h)).tch t7 (by have := t3.1; have := t5.1; omega) (fun h => nomatch h)
 have ka7 := k5.tch t7 l5 (fun h => nomatch h)
 have K7 := K.part T7 (fun _ h => nomatch h)
 refine Wp.obind (RowH.cell' k7 rfl) (Wp.obind (avBool_bool _) (Wp.lettG fun j37 e37 => ?_))
 have J37 : ∀ b : Bool, b = decide ((bestO (ofC (s.fs 2)) (ofC (s.fs 3))).isSome = true ∧ m.i ≤ (mkO (bestO (ofC (s.fs 2)) (ofC (s.fs 3)))).i) → Wp (j37 b h7) fun r h' => r = .ret (.int .i64 (saveD s m u).1) ∧ ∃ S lo', At lo' h' db (saveD s m u).2 (B + (snapB m u).length + 5) ∧ Tch S H h' ∧ (∀ b ∈ S, lo b) ∧ ∀ b, lo' b → lo b := fun b hb => by
  rw [e37, hb]
  dsimp only
  by_cases hc : (bestO (ofC (s.fs 2)) (ofC (s.fs 3))).isSome = true ∧ m.i ≤ (mkO (bestO (ofC (s.fs 2)) (ofC (s.fs 3)))).i
  ·rw [decide_eq_true hc]
   refine Wp.ift rfl (stop 5 ?_ h7 T7 K7)
   unfold saveD
   rw [if_neg hp, if_neg (fun h => h hm), if_neg hul, if_pos hc]
  rw [decide_eq_false hc]
  have hsv : saveD s m u = repD s (nextF (ofC (s.fs 2)) (ofC (s.fs 3))) (snapB m u) := by
   unfold saveD
   rw [if_neg hp, if_neg (fun h => h hm), if_neg hul, if_neg hc]
  have x0 : idxA 2 5 (.ptr h3.next 0) 0 = some (.ptr h3.next 0) := rfl
  have x1 : idxA 2 5 (.ptr h3.next 0) 1 = some (.ptr h3.next 5) := rfl
  have c0 : ldCell h7 (.ptr h3.next 0) = some (.int .i64 2) := RowH.cell' ka7 rfl
  have c1 : ldCell h7 (.ptr h3.next 5) = some (.int .i64 3) := RowH.cell' ka7 rfl
  refine Wp.iff rfl (Wp.obind x0 (Wp.obind (fldP_ptr _ _ _) (Wp.obind c0 (Wp.obind (avInt_int _ _) (Wp.obind (RowH.cell' k7 rfl) (Wp.obind (avBool_bool _) (Wp.lettG fun j48 e48 => ?_)))))))
  have J48 : ∀ b : Bool, nextF (ofC (s.fs 2)) (ofC (s.fs 3)) = (if b = true then 3 else 2) → Wp (j48 b h7) fun r h' => r = .ret (.int .i64 (saveD s m u).1) ∧ ∃ S lo', At lo' h' db (saveD s m u).2 (B + (snapB m u).length + 5) ∧ Tch S H h' ∧ (∀ b ∈ S, lo b) ∧ ∀ b, lo' b → lo b := fun b hb => by
   rw [e48]
   dsimp only
   refine Wp.lettG fun k63 e63 => ?_
   have K63 : ∀ f : Nat, nextF (ofC (s.fs 2)) (ofC (s.fs 3)) = f → f < 32 → Wp (k63 (f : Int) h7) fun r h' => r = .ret (.int .i64 (saveD s m u).1) ∧ ∃ S lo', At lo' h' db (saveD s m u).2 (B + (snapB m u).length + 5) ∧ Tch S H h' ∧ (∀ b ∈ S, lo b) ∧ ∀ b, lo' b → lo b := fun f hf hf32 => by
    rw [e63, hsv, hf]
    dsimp only
    obtain ⟨h8, S8, lo8, e8, K8, t8, hS8, hl8⟩ := replace_w (n := n) (D := D) (d := d) (u := snapB m u) (by omega) K7 (by omega) hf32
    exact Wp.obind (kr7.ldAll rfl) (Wp.callN ((wL_b 43).trans (bytesOf_w (n := n) (d := D) (m := m) (u := u) (by omega) K7.ex hm (by omega))) (Wp.obind (avStr_str _) (Wp.callN e8 (Wp.obind (avInt_int _ _) (Wp.ret ⟨rfl, S8, lo8, K8, (T7.mono fun _ h => nomatch h).trans t8, fun b hb => (hS8 b hb).1, fun b hb => (hl8 b hb).1⟩)))))
   cases b with
   | true => exact Wp.ift rfl (Wp.obind x1 (Wp.obind (fldP_ptr _ _ _) (Wp.obind c1 (Wp.obind (avInt_int _ _) (K63 3 hb (by decide))))))
   | false => exact Wp.iff rfl (K63 2 hb (by decide))
  unfold nextF at J48
  cases hsome : (bestO (ofC (s.fs 2)) (ofC (s.fs 3))).isSome with
  | true =>
   refine Wp.ift rfl (Wp.obind (RowH.cell' k7 rfl) (Wp.obind (avInt_int _ _) (Wp.lett (J48 _ ?_))))
   rw [hsome]
   cases newB (ofC (s.fs 2)) (ofC (s.fs 3)) <;> rfl
  | false =>
   refine Wp.iff rfl (J48 false ?_)
   rw [hsome]
   rfl
 cases hsome : (bestO (ofC (s.fs 2)) (ofC (s.fs 3))).isSome with
 | true =>
  refine Wp.ift rfl (Wp.obind (fldP_ptr _ _ _) (Wp.obind (RowH.cell' kr7 rfl) (Wp.obind (avInt_int _ _) (Wp.obind (RowH.cell' k7 rfl) (Wp.obind (avInt_int _ _) (Wp.lett (J37 _ ?_)))))))
  by_cases h : m.i ≤ (mkO (bestO (ofC (s.fs 2)) (ofC (s.fs 3)))).i
  ·rw [decide_eq_true h, decide_eq_true ⟨hsome, h⟩]
  ·rw [decide_eq_false h, decide_eq_false fun hh => h hh.2]
 | false =>
  refine Wp.iff rfl (J37 false ?_)
  rw [decide_eq_false fun hh => by rw [hsome] at hh; exact nomatch hh.1]
end
def rdK (c : Cont) : Option (Mk × Bytes) := if c.th = true then readF c.u else none
def FineK (c : Cont) : Prop := c.th = true → Fine c.u
structure Cl (y : FileS) : Prop where
 lo : y.loose = []
 se : y.sure = y.seen
 em : y.seen.th = false → y.seen = ⟨false, []⟩
 fi : FineK y.seen
def lab (l : List Bytes) : Nat → Option (Mk × Bytes)
 | 0 => none
 | j + 1 => (l[j]?).map fun u => (⟨((j + 1 : Nat) : Int), (j : Int)⟩, u)
def Low (i : Int) (o : Option (Mk × Bytes)) : Prop := ∀ x, o = some x → 1 ≤ x.1.i ∧ x.1.i < i
def Fb (f b i : Nat) : Prop := (f = 2 ∧ b = 3) ∨ (f = 3 ∧ b = 2 ∧ 0 < i)
structure Gd (l : List Bytes) (i f b : Nat) (s : DS) : Prop where
 fb : Fb f b i
 cf : Cl (s.fs f)
 cb : Cl (s.fs b)
 gb : rdK (s.fs b).seen = lab l i
 lo : Low i (rdK (s.fs f).seen)
 hi : i ≤ l.length
def snapV (l : List Bytes) (i : Nat) (h : i < l.length) : Bytes := snapB ⟨((i + 1 : Nat) : Int), (i : Int)⟩ l[i]
structure Mi (l : List Bytes) (i f b : Nat) (s : DS) : Prop where
 fb : Fb f b i
 cb : Cl (s.fs b)
 gb : rdK (s.fs b).seen = lab l i
 hi : i < l.length
 sf : FineK (s.fs f).sure
 lo : Low i (rdK (s.fs f).sure)
 sh : (s.fs f).loose = [] ∨ (s.fs f).loose = [chR] ∨ (s.fs f).loose = [chR, chA (snapV l i hi)] ∨ ((s.fs f).sure = ⟨false, []⟩ ∧ (s.fs f).loose = [chA (snapV l i hi)])
structure Cr (l : List Bytes) (i la f b : Nat) (s : DS) : Prop where
 fb : (f = 2 ∧ b = 3) ∨ (f = 3 ∧ b = 2)
 ff : FineK (s.fs f).seen
 fB : FineK (s.fs b).seen
 gb : rdK (s.fs b).seen = lab l i
 hi : i ≤ l.length
 gf : Low i (rdK (s.fs f).seen) ∨ (la = i + 1 ∧ la ≤ l.length ∧ rdK (s.fs f).seen = lab l la)
theorem newB_t {a : Option (Mk × Bytes)} {x : Mk × Bytes} (h : Low x.1.i a) : newB a (some x) = true := by
 cases a with
 | none => rfl
 | some y =>
  have := (h y rfl).2
  show (true && (false || decide (x.1.i > y.1.i))) = true
  rw [decide_eq_true (show x.1.i > y.1.i from this)]
  rfl
theorem newB_f {a : Option (Mk × Bytes)} {x : Mk × Bytes} (h : Low x.1.i a) : newB (some x) a = false := by
 cases a with
 | none => rfl
 | some y =>
  have := (h y rfl).2
  show (true && (false || decide (y.1.i > x.1.i))) = false
  rw [decide_eq_false (show ¬ y.1.i > x.1.i by omega)]
  rfl
theorem low_none {o : Option (Mk × Bytes)} (h : Low 0 o) : o = none := by
 cases o with
 | none => rfl
 | some x =>
  have := h x rfl
  omega
theorem lab_some {l : List Bytes} {j : Nat} (h : j < l.length) : lab l (j + 1) = some (⟨((j + 1 : Nat) : Int), (j : Int)⟩, l[j]) := by
 show (l[j]?).map _ = _
 rw [List.getElem?_eq_getElem h]
 rfl
theorem low_lab {l : List Bytes} {i : Nat} (hi : i ≤ l.length) : Low ((i + 1 : Nat) : Int) (lab l i) := by
 intro x hx
 cases i with
 | zero => cases hx
 | succ j =>
  rw [lab_some (by omega)] at hx
  cases hx
  show 1 ≤ ((j + 1 : Nat) : Int) ∧ ((j + 1 : Nat) : Int) < _
  omega
theorem best_of {f b : Nat} {s : DS} {x : Mk × Bytes} (fb : (f = 2 ∧ b = 3) ∨ (f = 3 ∧ b = 2)) (gb : rdK (s.fs b).seen = some x) (lo : Low x.1.i (rdK (s.fs f).seen)) : bestO (ofC (s.fs 2)) (ofC (s.fs 3)) = some x ∧ nextF (ofC (s.fs 2)) (ofC (s.fs 3)) = f := by
 have e : ∀ y : FileS, ofC y = rdK y.seen := fun _ => rfl
 unfold nextF bestO
 rcases fb with ⟨rfl, rfl⟩ | ⟨rfl, rfl⟩
 ·rw [e, e, gb, newB_t lo]
  exact ⟨rfl, rfl⟩
 ·rw [e, e, gb, newB_f lo]
  exact ⟨rfl, rfl⟩
theorem best_lab {l : List Bytes} {i f b : Nat} {s : DS} (fb : Fb f b i) (gb : rdK (s.fs b).seen = lab l i) (lo : Low i (rdK (s.fs f).seen)) (hi : i ≤ l.length) : bestO (ofC (s.fs 2)) (ofC (s.fs 3)) = lab l i ∧ nextF (ofC (s.fs 2)) (ofC (s.fs 3)) = f := by
 cases i with
 | zero =>
  rcases fb with ⟨rfl, rfl⟩ | ⟨_, _, h⟩
  ·have e : ∀ y : FileS, ofC y = rdK y.seen := fun _ => rfl
   rw [e, e, gb, low_none lo]
   exact ⟨rfl, rfl⟩
  ·omega
 | succ j =>
  rw [lab_some (by omega)] at gb ⊢
  exact best_of (fb.imp_right fun h => ⟨h.1, h.2.1⟩) gb lo
theorem load_cr {l : List Bytes} {i la f b : Nat} {s : DS} (C : Cr l i la f b s) : loadO s = lab l i ∨ (loadO s = lab l la ∧ la = i + 1 ∧ la ≤ l.length) := by
 rcases C.gf with h | ⟨h1, h2, h3⟩
 ·refine .inl ?_
  cases i with
  | zero =>
   have e : ∀ y : FileS, ofC y = rdK y.seen := fun _ => rfl
   have g := C.gb
   unfold loadO
   rcases C.fb with ⟨rfl, rfl⟩ | ⟨rfl, rfl⟩ <;> rw [e, e, g, low_none h] <;> rfl
  | succ j =>
   have g := C.gb
   have := C.hi
   rw [lab_some (by omega)] at g ⊢
   exact (best_of C.fb g h).1
 ·refine .inr ⟨?_, h1, h2⟩
  subst h1
  rw [lab_some (by omega)] at h3 ⊢
  refine (best_of (f := b) (b := f) (C.fb.symm.imp (fun h => ⟨h.2, h.1⟩) fun h => ⟨h.2, h.1⟩) h3 ?_).1
  rw [C.gb]
  exact low_lab C.hi
theorem snap_len2 (m : Mk) (u : Bytes) : (snapB m u).length ≤ 2 * u.length + 56 := by
 have h := joinF_len2 u.length u (Nat.le_refl _)
 rw [snapB_len]
 omega
theorem crash_sh {x : FileS} {v : Bytes} (h : x.loose = [] ∨ x.loose = [chR] ∨ x.loose = [chR, chA v] ∨ (x.sure = ⟨false, []⟩ ∧ x.loose = [chA v])) (kept torn : Int) : crashC x kept torn = x.sure ∨ crashC x kept torn = ⟨false, []⟩ ∨ ∃ k, crashC x kept torn = ⟨true, v.take k⟩ := by
 have c1 : ∀ l : List Chg, x.loose = l → ∀ i, min kept.toNat l.length = i → crashC x kept torn = (match l[i]? with
   | some c => if tears c torn then do1 (doL x.sure (l.take i)) (tornC c torn) else doL x.sure (l.take i)
   | none => doL x.sure (l.take i)) := fun l hl i hi => by
  unfold crashC keptN
  rw [hl, hi]
  rfl
 have whole : (⟨true, [] ++ v⟩ : Cont) = ⟨true, v.take v.length⟩ := by rw [List.take_length]; rfl
 rcases h with h | h | h | ⟨h1, h⟩
 ·rw [c1 [] h 0 (Nat.min_zero _)]
  exact .inl rfl
 ·rcases (show min kept.toNat 1 = 0 ∨ min kept.toNat 1 = 1 by omega) with hm | hm
  ·rw [c1 _ h 0 hm]
   show (if tears chR torn then do1 x.sure (tornC chR torn) else x.sure) = _ ∨ _
   rw [if_neg fun h => nomatch h.2.1]
   exact .inl rfl
  ·rw [c1 _ h 1 hm]
   exact .inr (.inl rfl)
 ·rcases (show min kept.toNat 2 = 0 ∨ min kept.toNat 2 = 1 ∨ min kept.toNat 2 = 2 by omega) with hm | hm | hm
  ·rw [c1 _ h 0 hm]
   show (if tears chR torn then do1 x.sure (tornC chR torn) else x.sure) = _ ∨ _
   rw [if_neg fun h => nomatch h.2.1]
   exact .inl rfl
  ·rw [c1 _ h 1 hm]
   show _ ∨ (if tears (chA v) torn then do1 ⟨false, []⟩ (tornC (chA v) torn) else (⟨false, []⟩ : Cont)) = _ ∨ ∃ k, (if tears (chA v) torn then do1 ⟨false, []⟩ (tornC (chA v) torn) else (⟨false, []⟩ : Cont)) = ⟨true, v.take k⟩
   by_cases ht : tears (chA v) torn
   ·rw [if_pos ht]
    exact .inr (.inr ⟨_, rfl⟩)
   ·rw [if_neg ht]
    exact .inr (.inl rfl)
  ·rw [c1 _ h 2 hm]
   exact .inr (.inr ⟨_, whole⟩)
 ·rcases (show min kept.toNat 1 = 0 ∨ min kept.toNat 1 = 1 by omega) with hm | hm
  ·rw [c1 _ h 0 hm, h1]
   show _ ∨ (if tears (chA v) torn then do1 ⟨false, []⟩ (tornC (chA v) torn) else (⟨false, []⟩ : Cont)) = _ ∨ ∃ k, (if tears (chA v) torn then do1 ⟨false, []⟩ (tornC (chA v) torn) else (⟨false, []⟩ : Cont)) = ⟨true, v.take k⟩
   by_cases ht : tears (chA v) torn
   ·rw [if_pos ht]
    exact .inr (.inr ⟨_, rfl⟩)
   ·rw [if_neg ht]
    exact .inr (.inl rfl)
  ·rw [c1 _ h 1 hm, h1]
   exact .inr (.inr ⟨_, whole⟩)
theorem fb_lt {f b i : Nat} (h : Fb f b i) : f < 32 ∧ b < 32 ∧ f ≠ b := by
 rcases h with ⟨rfl, rfl⟩ | ⟨rfl, rfl, _⟩ <;> decide
theorem crash_seen {s : DS} {zs : List Int} {torn : Int} {f : Nat} (hf : f < 32) : ((crashD s zs torn).fs f).seen = crashC (s.fs f) (keepAt zs f) torn := by
 show (if f < 32 then crashF (s.fs f) (keepAt zs f) torn else s.fs f).seen = _
 rw [if_pos hf]
 rfl
theorem crash_cl {y : FileS} (k : Cl y) (kept torn : Int) : crashC y kept torn = y.seen := by
 have c : crashC y kept torn = y.sure := by
  unfold crashC keptN
  rw [k.lo, show min kept.toNat ([] : List Chg).length = 0 from Nat.min_zero _]
  rfl
 rw [c, k.se]
theorem Gd.crash {l : List Bytes} {i f b : Nat} {s : DS} (G : Gd l i f b s) (zs : List Int) (torn : Int) : Cr l i i f b (crashD s zs torn) := by
 obtain ⟨h1, h2, _⟩ := fb_lt G.fb
 have ef := crash_seen (s := s) (zs := zs) (torn := torn) h1
 have eb := crash_seen (s := s) (zs := zs) (torn := torn) h2
 rw [crash_cl G.cf] at ef
 rw [crash_cl G.cb] at eb
 exact ⟨G.fb.imp_right fun h => ⟨h.1, h.2.1⟩, ef ▸ G.cf.fi, eb ▸ G.cb.fi, eb ▸ G.gb, G.hi, .inl (ef ▸ G.lo)⟩
theorem Mi.crash {l : List Bytes} {i f b : Nat} {s : DS} (G : Mi l i f b s) (h30 : l.length ≤ 1000) (hl : ∀ u ∈ l, u.length ≤ 262144) (zs : List Int) (torn : Int) : Cr l i (i + 1) f b (crashD s zs torn) := by
 obtain ⟨h1, h2, _⟩ := fb_lt G.fb
 have hi := G.hi
 have ef := crash_seen (s := s) (zs := zs) (torn := torn) h1
 have eb := crash_seen (s := s) (zs := zs) (torn := torn) h2
 rw [crash_cl G.cb] at eb
 have hu := hl _ (List.getElem_mem hi)
 refine ⟨G.fb.imp_right fun h => ⟨h.1, h.2.1⟩, ?_, eb ▸ G.cb.fi, eb ▸ G.gb, Nat.le_of_lt hi, ?_⟩
 ·rw [ef]
  rcases crash_sh G.sh (keepAt zs f) torn with h | h | ⟨k, h⟩
  ·rw [h]
   exact G.sf
  ·rw [h]
   exact fun h => nomatch h
  ·rw [h]
   exact fun _ => fine_take _ _ k
 ·rw [ef]
  rcases crash_sh G.sh (keepAt zs f) torn with h | h | ⟨k, h⟩
  ·rw [h]
   exact .inl G.lo
  ·rw [h]
   exact .inl fun x hx => nomatch hx
  ·rw [h]
   have e : rdK ⟨true, (snapV l i hi).take k⟩ = readF ((snapV l i hi).take k) := rfl
   rw [e]
   by_cases hk : k < (snapV l i hi).length
   ·rw [show readF ((snapV l i hi).take k) = none from readF_part (by omega) hk]
    exact .inl fun x hx => nomatch hx
   ·refine .inr ⟨rfl, hi, ?_⟩
    rw [List.take_of_length_le (by omega), lab_some hi]
    refine readF_of ⟨⟨⟨?_, ?_⟩, ?_⟩, ?_⟩ hu
    ·show (1 : Int) ≤ ((i + 1 : Nat) : Int)
     omega
    ·show ((i + 1 : Nat) : Int) ≤ 1048576
     omega
    ·show (0 : Int) ≤ (i : Int)
     omega
    ·show (i : Int) ≤ 1099511627776
     omega
theorem gd_new (l : List Bytes) (p : Int) : Gd l 0 2 3 ⟨newS.fs, p, 0⟩ :=
 have k : Cl emptyF := ⟨rfl, rfl, fun _ => rfl, fun h => nomatch h⟩
 ⟨.inl ⟨rfl, rfl⟩, k, k, rfl, (fun _ h => nomatch h), Nat.zero_le _⟩
theorem upd_same {α : Type} (g : Nat → α) (i : Nat) (x : α) : upd g i x i = x := if_pos rfl
theorem upd_ne {α : Type} (g : Nat → α) {i j : Nat} (x : α) (h : j ≠ i) : upd g i x j = g j := if_neg h
theorem repE_gd {l : List Bytes} {i f b : Nat} {s : DS} (fb : Fb f b i) (cb : Cl (s.fs b)) (gb : rdK (s.fs b).seen = lab l i) (hi : i < l.length) (h30 : l.length ≤ 1000) (hu : l[i].length ≤ 262144) (sf : FineK (s.fs f).sure) (lo : Low i (rdK (s.fs f).sure)) (hs : (s.fs f).seen = ⟨false, []⟩)
  (sh : (s.fs f).loose = [chR] ∨ ((s.fs f).sure = ⟨false, []⟩ ∧ (s.fs f).loose = [])) : ((repE s f (snapV l i hi)).1 = 0 ∧ Gd l (i + 1) b f (repE s f (snapV l i hi)).2) ∨ ((repE s f (snapV l i hi)).1 = 40 ∧ Mi l i f b (repE s f (snapV l i hi)).2) := by
 obtain ⟨hf, hb, hfb⟩ := fb_lt fb
 have hm : mkOk ⟨((i + 1 : Nat) : Int), (i : Int)⟩ := by
  refine ⟨⟨⟨?_, ?_⟩, ?_⟩, ?_⟩
  ·show (1 : Int) ≤ ((i + 1 : Nat) : Int)
   omega
  ·show ((i + 1 : Nat) : Int) ≤ 1048576
   omega
  ·show (0 : Int) ≤ (i : Int)
   omega
  ·show (i : Int) ≤ 1099511627776
   omega
 have hv := snap_len2 ⟨((i + 1 : Nat) : Int), (i : Int)⟩ l[i]
 have hrd : rdK ⟨true, snapV l i hi⟩ = some (⟨((i + 1 : Nat) : Int), (i : Int)⟩, l[i]) := (if_pos rfl).trans (readF_of hm hu)
 have hvv : (snapV l i hi).length ≤ 2 * l[i].length + 56 := hv
 have hr : ∀ p : Int, refP p (f : Int) = if p = 0 then 40 else 0 := fun p => by
  unfold refP
  rw [if_pos (show (0 : Int) ≤ (f : Int) ∧ (f : Int) < 32 by omega)]
 have sh0 : (s.fs f).loose = [] ∨ (s.fs f).loose = [chR] ∨ (s.fs f).loose = [chR, chA (snapV l i hi)] ∨ ((s.fs f).sure = ⟨false, []⟩ ∧ (s.fs f).loose = [chA (snapV l i hi)]) := by
  rcases sh with h | h
  ·exact .inr (.inl h)
  ·exact .inl h.2
 by_cases hp : s.p = 0
 ·have h40 : refP s.p (f : Int) = 40 := by rw [hr, if_pos hp]
  have he : errP s (f : Int) (chA (snapV l i hi)) = 40 := by
   unfold errP
   rw [h40]
   rfl
  have ha : actD s (f : Int) (chA (snapV l i hi)) = s := by
   unfold actD
   rw [he]
   rfl
  unfold repE
  rw [he, ha]
  exact .inr ⟨rfl, fb, cb, gb, hi, sf, lo, sh0⟩
 ·have h0 : refP s.p (f : Int) = 0 := by rw [hr, if_neg hp]
  have ho : ownE (s.fs f) (chA (snapV l i hi)) = 0 := by
   unfold ownE
   rw [if_pos (show (chA (snapV l i hi)).k = 0 from rfl), hs, if_neg]
   show ¬ (1048576 : Int) - (([] : Bytes).length : Int) < ((snapV l i hi).length : Int)
   rw [List.length_nil]
   omega
  have he : errP s (f : Int) (chA (snapV l i hi)) = 0 := (err_ok h0).trans ho
  have ha := act_ok (s := s) (f := f) h0 ho
  unfold repE
  rw [he, ha]
  show ((refP (stepP s.p) (f : Int) = 0 ∧ _) ∨ (refP (stepP s.p) (f : Int) = 40 ∧ _))
  have hmo : (moreF (s.fs f) (chA (snapV l i hi))).seen = ⟨true, snapV l i hi⟩ := by
   unfold moreF
   rw [hs]
   rfl
  by_cases hq : stepP s.p = 0
  ·refine .inr ⟨by rw [hr, if_pos hq], ?_⟩
   have hsy : synD ⟨upd s.fs f (moreF (s.fs f) (chA (snapV l i hi))), stepP s.p, s.ops + 1⟩ (f : Int) = ⟨upd s.fs f (moreF (s.fs f) (chA (snapV l i hi))), stepP s.p, s.ops + 1⟩ := by
    unfold synD
    dsimp only
    rw [hr, if_pos hq]
    rfl
   show Mi l i f b (synD ⟨upd s.fs f (moreF (s.fs f) (chA (snapV l i hi))), stepP s.p, s.ops + 1⟩ (f : Int))
   rw [hsy]
   have ub := upd_ne s.fs (moreF (s.fs f) (chA (snapV l i hi))) hfb.symm
   have uf := upd_same s.fs f (moreF (s.fs f) (chA (snapV l i hi)))
   refine ⟨fb, ?_, ?_, hi, ?_, ?_, ?_⟩
   ·show Cl (upd s.fs f _ b)
    rw [ub]
    exact cb
   ·show rdK (upd s.fs f _ b).seen = _
    rw [ub]
    exact gb
   ·show FineK (upd s.fs f _ f).sure
    rw [uf]
    exact sf
   ·show Low i (rdK (upd s.fs f _ f).sure)
    rw [uf]
    exact lo
   ·show (upd s.fs f _ f).loose = [] ∨ (upd s.fs f _ f).loose = [chR] ∨ (upd s.fs f _ f).loose = [chR, chA (snapV l i hi)] ∨ ((upd s.fs f _ f).sure = ⟨false, []⟩ ∧ (upd s.fs f _ f).loose = [chA (snapV l i hi)])
    rw [uf]
    show (s.fs f).loose ++ _ = _ ∨ (s.fs f).loose ++ _ = _ ∨ (s.fs f).loose ++ _ = _ ∨ ((s.fs f).sure = _ ∧ (s.fs f).loose ++ _ = _)
    rcases sh with h | ⟨h1, h⟩
    ·rw [h]
     exact .inr (.inr (.inl rfl))
    ·rw [h]
     exact .inr (.inr (.inr ⟨h1, rfl⟩))
  ·refine .inl ⟨by rw [hr, if_neg hq], ?_⟩
   have hsy : synD ⟨upd s.fs f (moreF (s.fs f) (chA (snapV l i hi))), stepP s.p, s.ops + 1⟩ (f : Int) = ⟨upd (upd s.fs f (moreF (s.fs f) (chA (snapV l i hi)))) f ⟨⟨true, snapV l i hi⟩, ⟨true, snapV l i hi⟩, []⟩, stepP (stepP s.p), s.ops + 1 + 1⟩ := by
    unfold synD
    dsimp only
    rw [hr, if_neg hq, if_pos rfl, Int.toNat_natCast, upd_same]
    unfold synF
    rw [hmo]
   show Gd l (i + 1) b f (synD ⟨upd s.fs f (moreF (s.fs f) (chA (snapV l i hi))), stepP s.p, s.ops + 1⟩ (f : Int))
   rw [hsy]
   have ub : (upd (upd s.fs f (moreF (s.fs f) (chA (snapV l i hi)))) f ⟨⟨true, snapV l i hi⟩, ⟨true, snapV l i hi⟩, []⟩) b = s.fs b := by rw [upd_ne _ _ hfb.symm, upd_ne _ _ hfb.symm]
   have uf := upd_same (upd s.fs f (moreF (s.fs f) (chA (snapV l i hi)))) f ⟨⟨true, snapV l i hi⟩, ⟨true, snapV l i hi⟩, []⟩
   refine ⟨?_, ?_, ?_, ?_, ?_, hi⟩
   ·rcases fb with ⟨rfl, rfl⟩ | ⟨rfl, rfl, _⟩
    ·exact .inr ⟨rfl, rfl, Nat.succ_pos _⟩
    ·exact .inl ⟨rfl, rfl⟩
   ·show Cl (upd (upd s.fs f _) f _ b)
    rw [ub]
    exact cb
   ·show Cl (upd (upd s.fs f _) f _ f)
    rw [uf]
    exact ⟨rfl, rfl, (fun h => nomatch h), fun _ => fine_snap _ _⟩
   ·show rdK (upd (upd s.fs f _) f _ f).seen = _
    rw [uf, lab_some hi]
    exact hrd
   ·show Low _ (rdK (upd (upd s.fs f _) f _ b).seen)
    rw [ub, gb]
    exact low_lab (Nat.le_of_lt hi)
theorem Gd.save {l : List Bytes} {i f b : Nat} {s : DS} (G : Gd l i f b s) (hi : i < l.length) (h30 : l.length ≤ 1000) (hu : l[i].length ≤ 262144) : ((saveD s ⟨((i + 1 : Nat) : Int), (i : Int)⟩ l[i]).1 = 0 ∧ Gd l (i + 1) b f (saveD s ⟨((i + 1 : Nat) : Int), (i : Int)⟩ l[i]).2) ∨ ((saveD s ⟨((i + 1 : Nat) : Int), (i : Int)⟩ l[i]).1 = 40 ∧ Mi l i f b (saveD s ⟨((i + 1 : Nat) : Int), (i : Int)⟩ l[i]).2) := by
 obtain ⟨hf, hb, hfb⟩ := fb_lt G.fb
 have hm : mkOk ⟨((i + 1 : Nat) : Int), (i : Int)⟩ := by
  refine ⟨⟨⟨?_, ?_⟩, ?_⟩, ?_⟩
  ·show (1 : Int) ≤ ((i + 1 : Nat) : Int)
   omega
  ·show ((i + 1 : Nat) : Int) ≤ 1048576
   omega
  ·show (0 : Int) ≤ (i : Int)
   omega
  ·show (i : Int) ≤ 1099511627776
   omega
 by_cases hp : s.p = 0
 ·have hs : saveD s ⟨((i + 1 : Nat) : Int), (i : Int)⟩ l[i] = (40, s) := if_pos hp
  rw [hs]
  refine .inr ⟨rfl, G.fb, G.cb, G.gb, hi, ?_, ?_, .inl G.cf.lo⟩
  ·rw [G.cf.se]
   exact G.cf.fi
  ·rw [G.cf.se]
   exact G.lo
 obtain ⟨hb1, hb2⟩ := best_lab G.fb G.gb G.lo G.hi
 have hs : saveD s ⟨((i + 1 : Nat) : Int), (i : Int)⟩ l[i] = repD s f (snapV l i hi) := by
  unfold saveD
  rw [if_neg hp, if_neg (fun h => h hm), if_neg (by omega), hb1, hb2, if_neg]
  ·rfl
  ·rintro ⟨h1, h2⟩
   cases i with
   | zero => cases h1
   | succ j =>
    rw [lab_some (by omega)] at h2
    have h3 : ((j + 1 + 1 : Nat) : Int) ≤ ((j + 1 : Nat) : Int) := h2
    omega
 rw [hs]
 have h0 : refP s.p (f : Int) = 0 := by
  unfold refP
  rw [if_neg hp, if_pos (show (0 : Int) ≤ (f : Int) ∧ (f : Int) < 32 by omega)]
 unfold repD
 by_cases hth : (s.fs f).seen.th = true
 ·have ho : ownE (s.fs f) chR = 0 := by
   unfold ownE
   rw [if_neg (by decide), if_neg (by rw [hth]; decide), if_neg fun h => absurd h.1 (by decide)]
  rw [if_pos hth, (err_ok h0).trans ho, if_neg (fun h => h rfl), act_ok (s := s) (f := f) h0 ho]
  have ub := upd_ne s.fs (moreF (s.fs f) chR) hfb.symm
  have uf := upd_same s.fs f (moreF (s.fs f) chR)
  refine repE_gd G.fb ?_ ?_ hi h30 hu ?_ ?_ ?_ (.inl ?_)
  ·show Cl (upd s.fs f _ b)
   rw [ub]
   exact G.cb
  ·show rdK (upd s.fs f _ b).seen = _
   rw [ub]
   exact G.gb
  ·show FineK (upd s.fs f _ f).sure
   rw [uf]
   exact G.cf.se ▸ G.cf.fi
  ·show Low i (rdK (upd s.fs f _ f).sure)
   rw [uf]
   exact G.cf.se ▸ G.lo
  ·show (upd s.fs f _ f).seen = _
   rw [uf]
   rfl
  ·show (upd s.fs f _ f).loose = _
   rw [uf]
   show (s.fs f).loose ++ _ = _
   rw [G.cf.lo]
   rfl
 ·rw [if_neg hth]
  have he := G.cf.em (by simpa using hth)
  exact repE_gd G.fb G.cb G.gb hi h30 hu (G.cf.se ▸ G.cf.fi) (G.cf.se ▸ G.lo) he (.inr ⟨G.cf.se.trans he, G.cf.lo⟩)
abbrev TIb : Nat := 98
noncomputable def msgA : List AV := [.int .u8 0, .int .i64 0, .int .i64 0, .int .i64 0, .int .i64 8, .int .i64 0, .int .i64 0, .int .i64 0, .bool false, .nsl, .int .i64 0, .int .i64 2, strA ([97] : Bytes), .int .i64 0, .int .i64 0, .int .i64 0, .int .i64 0, .int .i64 0, .int .i64 0, .int .u8 0, .int .i64 0, .int .i64 0]
def ibC (i t z : Int) (v : AV) : List AV := [.int .i64 i, .int .i64 t, .int .i64 z, v]
theorem eqIb (b : Nat) (h : AHeap) : opBin Try.prog h .eql 27 true (some (.ptr b 0)) (some AV.nilp) = some (.val (.bool false), h) := by kernel_rfl
theorem rdi_nil (lo : Nat → Prop) (h : AHeap) : RdI lo h .nsl [] := ⟨rfl, fun _ _ _ _ _ hi => absurd hi (Nat.not_lt_zero _)⟩
theorem eqM0 : eqOther Try.prog TMk (.agg [.int .i64 8, .int .i64 0]) (.agg [.int .i64 0, .int .i64 0]) = some false := by kernel_rfl
theorem eqM1 : eqOther Try.prog TMk (.agg [.int .i64 8, .int .i64 1]) (.agg [.int .i64 8, .int .i64 1]) = some true := by kernel_rfl
theorem bldIb : bldS Try.prog TIb [(0, .agg [.int .i64 8, .int .i64 0]), (1, .int .i64 2)] = some (ibC 8 0 2 .nsl) := by kernel_rfl
section
variable {n d D ib : Nat} {H : AHeap}
theorem inbox_w : ∃ H', world n (d + 1) 11 [] H = some (.ret (.ptr H.next 0), H') ∧ RowH H' H.next TIb (ibC 0 0 0 .nsl) ∧ H.next < H'.next ∧ Tch [] H H' := by
 suffices hK : Wp (world n (d + 1) 11 [] H) fun r H' => r = .ret (.ptr H.next 0) ∧ RowH H' H.next TIb (ibC 0 0 0 .nsl) ∧ H.next < H'.next ∧ Tch [] H H' by
  obtain ⟨_, H', e, rfl, k⟩ := hK
  exact ⟨H', e, k⟩
 rw [w_snap_NewInbox]
 refine Wp.gcn ?_
 unfold snap_NewInbox
 exact Wp.mbox (Mem.nil [] H) rfl fun h2 M2 => Wp.ret ⟨blt_self _, rfl, M2.at0.1, M2.at0.2.1, M2.tch⟩
theorem inPut_w (k : RowH H ib TIb (ibC 0 0 0 .nsl)) (lb : ib < H.next) (hx : H.ex = [89]) : ∃ H', world n (d + 1) 12 [.ptr ib 0, .agg msgA] H = some (.ret (.tup [.int .i64 1, strA ([] : Bytes), .bool false]), H') ∧ Tch [ib] H H' := by
 suffices hK : Wp (world n (d + 1) 12 [.ptr ib 0, .agg msgA] H) fun r H' => r = .ret (.tup [.int .i64 1, strA ([] : Bytes), .bool false]) ∧ Tch [ib] H H' by
  obtain ⟨_, H', e, rfl, k⟩ := hK
  exact ⟨H', e, k⟩
 rw [w_snap_Inbox_Put]
 unfold snap_Inbox_Put
 refine Wp.mbox (Mem.nil [] H) rfl fun h2 M2 => Wp.outK (eqIb ib h2) (Wp.obind (avBool_bool _) (Wp.lettG fun j14 e14 => Wp.iff rfl (Wp.obind (fldP_ptr _ _ _) (Wp.ld0 M2 rfl (Wp.obind (avInt_int _ _) (Wp.lett ?_))))))
 rw [e14]
 refine Wp.lettG fun j19 e19 => Wp.iff rfl (Wp.obind (fldP_ptr _ _ _) (Wp.ld0 M2 rfl (Wp.obind (avInt_int _ _) (Wp.lett ?_))))
 rw [e19]
 refine Wp.lettG fun j24 e24 => Wp.iff rfl (Wp.obind (fldP_ptr _ _ _) (Wp.ld0 M2 rfl (Wp.obind (avInt_int _ _) (Wp.lett ?_))))
 rw [e24]
 refine Wp.lettG fun j29 e29 => Wp.iff rfl (Wp.obind (fldP_ptr _ _ _) (Wp.ld0 M2 rfl (Wp.obind (avInt_int _ _) (Wp.lett ?_))))
 rw [e29]
 refine Wp.iff rfl (Wp.obind (fldP_ptr _ _ _) (Wp.ld0 M2 rfl (Wp.obind (avInt_int _ _) (Wp.obind (fldP_ptr _ _ _) (Wp.ld0 M2 rfl (Wp.obind (avInt_int _ _) (Wp.mnew M2 fun h3 M3 => ?_)))))))
 rw [newP_eq h2]
 refine Wp.sa0 M3 rfl rfl rfl fun h4 M4 => Wp.lettG fun k35 e35 => Wp.lr0 M4 rfl ?_
 have T4 := M4.tch
 have k4 := k.tch T4 lb (fun h => nomatch h)
 have g4 : ldRow h4 2 (.ptr ib 0) = some [.int .i64 0, .int .i64 0] := k4.ld (o := 0) (n := 2) (show 0 + 2 ≤ 4 by decide)
 refine Wp.obind (nilC_ptr _ _) (Wp.obind (fldP_ptr _ _ _) (Wp.obind g4 (Wp.obind eqM0 (Wp.lett (Wp.ift rfl ?_)))))
 rw [e35]
 refine Wp.lettG fun k37 e37 => Wp.ift rfl (Wp.lr0 M4 rfl (Wp.obind (fldP_ptr _ _ _) (Wp.ld1 M4 rfl (Wp.obind (avInt_int _ _) (Wp.obind bldIb (Wp.obind (nilC_ptr _ _) (Wp.stAll k4 rfl rfl rfl fun h5 k5 t5 n5 => ?_)))))))
 rw [e37]
 have hT4 := T4.1
 have hb2 : H.next ∉ [ib] := fun h => by have := List.mem_singleton.1 h; omega
 have m5 := M4.at1.1.tch t5 M4.at1.2.1 hb2
 have x5 : h5.ex = [89] := by rw [t5.2.1, T4.2.1, hx]
 have T5 : Tch [ib] H h5 := (T4.mono fun _ h => nomatch h).trans t5
 refine Wp.lettG fun k41 e41 => Wp.obind (fldP_ptr _ _ _) (Wp.obind (RowH.cell' m5 rfl) (Wp.obind (avInt_int _ _) (Wp.obind (nilC_ptr _ _) (Wp.obind (fldP_ptr _ _ _) (Wp.obind (RowH.cell' k5 rfl) (Wp.obind rfl (Wp.lett (Wp.ift rfl ?_))))))))
 refine Wp.obind (fldP_ptr _ _ _) (Wp.obind (RowH.cell' m5 rfl) (Wp.obind (avStr_str _) (Wp.obind (nilC_ptr _ _) (Wp.obind (fldP_ptr _ _ _) (Wp.obind (RowH.cell' k5 rfl) (Wp.obind (avInt_int _ _) (Wp.obind (nilC_ptr _ _) (Wp.obind (fldP_ptr _ _ _) (Wp.obind (RowH.cell' k5 rfl) (Wp.obind rfl (Wp.lett (Wp.lett ?_))))))))))))
 rw [e41]
 obtain ⟨v6, h6, e6, b6, t6, hb6⟩ := BufAt.app (h := h5) (v := .nsl) (u := []) (.inl ⟨rfl, rfl⟩) [97] x5 (by decide)
 refine Wp.lettG fun k43 e43 => Wp.ift (by kernel_rfl) (Wp.obind (nilC_ptr _ _) (Wp.obind (fldP_ptr _ _ _) (Wp.obind (RowH.cell' k5 rfl) (Wp.obind (fldP_ptr _ _ _) (Wp.obind (RowH.cell' m5 rfl) (Wp.obind (avStr_str _) (Wp.outK e6 (Wp.obind (nilC_ptr _ _) (Wp.obind (fldP_ptr _ _ _) ?_)))))))))
 rw [b6.one.2]
 have lb5 : ib < h5.next := by omega
 have k6 := k5.tch t6 lb5 (fun h => nomatch h)
 refine Wp.st1 k6 (show 0 + 3 < 4 by decide) b6.one.1 fun h7 k7 t7 n7 => ?_
 rw [e43]
 have k7' : RowH h7 ib TIb (ibC 8 0 2 v6) := k7
 refine Wp.obind (nilC_ptr _ _) (Wp.obind (fldP_ptr _ _ _) (Wp.obind (RowH.cell' k7' rfl) (Wp.obind b6.len (Wp.obind (nilC_ptr _ _) (Wp.obind (fldP_ptr _ _ _) (Wp.obind (RowH.cell' k7' rfl) (Wp.obind (avInt_int _ _) (Wp.lett (Wp.ift (by decide) ?_)))))))))
 exact Wp.obind (nilC_ptr _ _) (Wp.obind (fldP_ptr _ _ _) (Wp.obind (RowH.cell' k7' rfl) (Wp.obind b6.len (Wp.ret ⟨rfl, (T5.trans (t6.mono fun _ h => nomatch h)).trans t7⟩))))
theorem repD_new (v : Bytes) (hv : v.length ≤ 1000000) : repD newS 2 v = (0, ⟨upd (upd newS.fs 2 (moreF emptyF (chA v))) 2 ⟨⟨true, v⟩, ⟨true, v⟩, []⟩, -1, 2⟩) := by
 have h0 : refP newS.p ((2 : Nat) : Int) = 0 := by decide
 have ho : ownE (newS.fs 2) (chA v) = 0 := by
  unfold ownE
  rw [if_pos (show (chA v).k = 0 from rfl), if_neg]
  show ¬ (1048576 : Int) - (([] : Bytes).length : Int) < (v.length : Int)
  rw [List.length_nil]
  omega
 unfold repD
 rw [if_neg (show ¬ (newS.fs 2).seen.th = true from fun h => nomatch h)]
 unfold repE
 rw [(err_ok h0).trans ho, if_neg (fun h => h rfl), act_ok h0 ho]
 rfl
def abcB : Bytes := [97, 98, 99]
def exS : DS := ⟨upd (upd newS.fs 2 (moreF emptyF (chA (snapB ⟨8, 1⟩ abcB)))) 2 ⟨⟨true, snapB ⟨8, 1⟩ abcB⟩, ⟨true, snapB ⟨8, 1⟩ abcB⟩, []⟩, -1, 2⟩
theorem abc_len : (snapB ⟨8, 1⟩ abcB).length ≤ 62 := snap_len2 ⟨8, 1⟩ abcB
theorem save_new : saveD newS ⟨8, 1⟩ abcB = (0, exS) := by
 unfold saveD
 rw [if_neg (show ¬ newS.p = 0 by decide), if_neg (show ¬ ¬ mkOk ⟨8, 1⟩ by decide), if_neg (show ¬ abcB.length > 262144 by decide), if_neg (fun h => nomatch h.1)]
 have := abc_len
 exact repD_new _ (by omega)
theorem ex2 : exS.fs 2 = ⟨⟨true, snapB ⟨8, 1⟩ abcB⟩, ⟨true, snapB ⟨8, 1⟩ abcB⟩, []⟩ := by
 unfold exS
 dsimp only
 rw [upd_same]
theorem ex3 : exS.fs 3 = emptyF := by
 unfold exS
 dsimp only
 rw [upd_ne _ _ (by decide), upd_ne _ _ (by decide)]
theorem ex_cl : Cl (exS.fs 2) ∧ Cl (exS.fs 3) := by
 rw [ex2, ex3]
 exact ⟨⟨rfl, rfl, (fun h => nomatch h), fun _ => fine_snap _ _⟩, ⟨rfl, rfl, (fun _ => rfl), fun h => nomatch h⟩⟩
theorem ex_crash : ((crashD exS [] 0).fs 2).seen = ⟨true, snapB ⟨8, 1⟩ abcB⟩ ∧ ((crashD exS [] 0).fs 3).seen = ⟨false, []⟩ := by
 rw [crash_seen (by decide), crash_seen (by decide), crash_cl ex_cl.1, crash_cl ex_cl.2, ex2, ex3]
 exact ⟨rfl, rfl⟩
theorem ex_load : loadO (crashD exS [] 0) = some (⟨8, 1⟩, abcB) := by
 have e : ∀ y : FileS, ofC y = rdK y.seen := fun _ => rfl
 unfold loadO
 rw [e, e, ex_crash.1, ex_crash.2]
 have h : rdK ⟨true, snapB ⟨8, 1⟩ abcB⟩ = some (⟨8, 1⟩, abcB) := (if_pos rfl).trans (readF_of (by decide) (by decide))
 rw [h]
 rfl
theorem works_w (hX : H.ex = [89]) (hn : 2000000000 < n) : ∃ H', wL n (D + 6) (d + 9) false 8 [] H = some (.ret (.bool true), H') ∧ ∃ S, Tch S H H' ∧ ∀ b ∈ S, H.next ≤ b := by
 suffices hK : Wp (law19_works ((wL n (D + 6) (d + 8)) false) n H) fun r H' => r = .ret (.bool true) ∧ ∃ S, Tch S H H' ∧ ∀ b ∈ S, H.next ≤ b by
  obtain ⟨_, H', e, rfl, k⟩ := hK
  exact ⟨H', wL_law19_works n (D + 6) (d + 8) e, k⟩
 have hl := abc_len
 unfold law19_works
 obtain ⟨H1, e1, K1, t1⟩ := new_ok (n := n) (d := D + 5) (h := H) hX
 obtain ⟨H2, S2, lo2, e2, K2, t2, hS2, hl2⟩ := Save_w (n := n) (D := D) (d := d) (m := ⟨8, 1⟩) (u := abcB) K1 (by omega) (by decide) (fun h => nomatch h) (fun h => nomatch h) hn
 rw [save_new] at e2 K2
 refine Wp.callN ((wL_b 13).trans e1) (Wp.callK e2 (Wp.obind (avInt_int _ _) (Wp.lett (Wp.lettG fun j18 e18 => Wp.iff rfl ?_))))
 obtain ⟨H3, S3, e3, K3, t3, hS3⟩ := crash_ok (n := n) (d := D + 2) (torn := 0) (by omega) (by omega) (by decide) (zs := []) (by decide) K2 (rdi_nil _ _)
 refine Wp.callN ((wL_b 25).trans e3) (Wp.obind (avInt_int _ _) (Wp.lett ?_))
 rw [e18]
 have z2 := K3.seen_len (z := 2) (by decide)
 have z3 := K3.seen_len (z := 3) (by decide)
 have F2 : FineC ((crashD exS [] 0).fs 2) := by
  show FineK ((crashD exS [] 0).fs 2).seen
  rw [ex_crash.1]
  exact fun _ => fine_snap _ _
 have F3 : FineC ((crashD exS [] 0).fs 3) := by
  show FineK ((crashD exS [] 0).fs 3).seen
  rw [ex_crash.2]
  exact fun h => nomatch h
 obtain ⟨H4, e4, t4⟩ := Load_w (n := n) (D := D) (d := d + 1) K3 (show ¬ (-1 : Int) = 0 by decide) (by omega) (by omega) F2 F3 hn
 rw [ex_load] at e4
 refine Wp.iff rfl (Wp.callK e4 (Wp.obind (extT_0 _ _) (Wp.obind (avAgg_agg _) (Wp.obind (extT_1 _ _ _) (Wp.obind (avStr_str _) (Wp.obind (extT_2 _ _ _ _) (Wp.obind (avInt_int _ _) (Wp.mnew (Mem.nil [] H4) fun H5 M5 => ?_))))))))
 rw [newP_eq H4]
 refine Wp.sa0 M5 rfl rfl rfl fun H6 M6 => ?_
 have t6 := M6.tch
 have l6 := M6.at0.2.1
 obtain ⟨H7, e7, k7, l7, t7⟩ := inbox_w (n := n) (d := D + 5) (H := H6)
 have x7 : H7.ex = [89] := by rw [t7.2.1, t6.2.1, t4.2.1, t3.2.1, t2.2.1, t1.2.1, hX]
 obtain ⟨H8, e8, t8⟩ := inPut_w (n := n) (d := D + 5) k7 l7 x7
 refine Wp.callN ((wL_b 11).trans e7) (Wp.outK (eqIb _ H7) (Wp.obind (avBool_bool _) (Wp.iff rfl (Wp.callN ((wL_b 12).trans e8) (Wp.obind (extT_0 _ _) (Wp.obind (avInt_int _ _) (Wp.obind (extT_1 _ _ _) (Wp.obind (avStr_str _) (Wp.obind (extT_2 _ _ _ _) (Wp.obind (avBool_bool _) (Wp.lett (Wp.lettG fun j41 e41 => Wp.ift rfl ?_))))))))))))
 have k8 := (M6.at0.1.tch t7 l6 (fun h => nomatch h)).tch t8 (by omega) (fun h => by have := List.mem_singleton.1 h; omega)
 refine Wp.obind (k8.ldAll rfl) (Wp.obind eqM1 ?_)
 rw [e41]
 refine Wp.lettG fun j45 e45 => Wp.ift rfl (Wp.lett ?_)
 rw [e45]
 refine Wp.lettG fun j49 e49 => Wp.ift (by kernel_rfl) (Wp.lett ?_)
 rw [e49]
 refine Wp.lettG fun j53 e53 => Wp.ift rfl (Wp.lett ?_)
 rw [e53]
 have h12 := Nat.le_trans t1.1 t2.1
 have h13 := Nat.le_trans h12 t3.1
 refine Wp.ret ⟨rfl, S2 ++ (S3 ++ [H6.next]), ?_, fun b hb => ?_⟩
 ·exact ((((((t1.mono fun _ h => nomatch h).trans (t2.mono fun b hb => .inl (List.mem_append_left _ hb))).trans (t3.mono fun b hb => .inl (List.mem_append_right _ (List.mem_append_left _ hb)))).trans (t4.mono fun _ h => nomatch h)).trans (t6.mono fun _ h => nomatch h)).trans (t7.mono fun _ h => nomatch h)).trans (t8.mono fun b hb => .inl (List.mem_append_right _ (List.mem_append_right _ hb)))
 ·rcases List.mem_append.1 hb with hb | hb
  ·exact hS2 b hb
  rcases List.mem_append.1 hb with hb | hb
  ·exact hl2 b (hS3 b hb)
  ·rw [List.mem_singleton.1 hb]
   have := t4.1
   have := t6.1
   omega
end
noncomputable def law19_SnapKept_L1b (t0 : AV) (t24 : Int) (k14 : Int → AHeap → R) (self : Int → Int → AHeap → R) (t9_139 : Int) (t25 : Int) (h_140 : AHeap) : R :=
 lett (decide (t25 < t24)) fun (t26 : Bool) =>
 ifB t26
 (
  obind (idxP 1 t0 t25) fun t27 =>
  obind (ldCell h_140 t27) fun v28 =>
  obind (avStr v28) fun t28 =>
  lett (if 262144 < (lenS t28) then 262144 else (lenS t28)) fun (t32 : Int) =>
  lett (IntKind.i64.wrap (t9_139 + t32)) fun (t33 : Int) =>
  lett (IntKind.i64.wrap (t25 + 1)) fun (t34 : Int) =>
  self t33 t34 h_140)
 (
  k14 t9_139 h_140)
noncomputable def law19_SnapKept_L1 (t0 : AV) (t24 : Int) (k14 : Int → AHeap → R) : Nat → Int → Int → AHeap → R := iterR (fun _ _ _ => none) (law19_SnapKept_L1b t0 t24 k14)
theorem law19_SnapKept_L1_s (t0 : AV) (t24 : Int) (k14 : Int → AHeap → R) (m : Nat) : law19_SnapKept_L1 t0 t24 k14 (m + 1) = law19_SnapKept_L1b t0 t24 k14 (law19_SnapKept_L1 t0 t24 k14 m) := rfl
noncomputable def law19_SnapKept_L0b (call : CallF) (t0 : AV) (r46 : AV) (t51 : Int) (k38 : Int → Int → AHeap → R) (self : Int → Int → Int → AHeap → R) (t13_106 : Int) (t14_107 : Int) (t52 : Int) (h_108 : AHeap) : R :=
 lett (decide (t52 < t51)) fun (t53 : Bool) =>
 ifB t53
 (
  obind (idxP 1 t0 t52) fun t55 =>
  obind (ldCell h_108 t55) fun v56 =>
  obind (avStr v56) fun t56 =>
  lett (IntKind.i64.wrap (t52 + 1)) fun (t59 : Int) =>
  callK (call 15 [r46, .agg ([.int .i64 t59, .int .i64 t52] : List AV), strA t56] h_108) fun r63 h_120 =>
  obind (avInt .i64 r63) fun t63 =>
  lett (IntKind.i64.wrap (t52 + 1)) fun (t65 : Int) =>
  lett ((t63 : Int) != 0) fun (t67 : Bool) =>
  ifB t67
  (
   lett ((t63 : Int) != 40) fun (t69 : Bool) =>
   ifB t69
   (
    some (.ret (.bool false), h_120))
   (
    k38 t13_106 t65 h_120))
  (
   lett (IntKind.i64.wrap (t52 + 1)) fun (t71 : Int) =>
   lett (IntKind.i64.wrap (t52 + 1)) fun (t72 : Int) =>
   self t71 t65 t72 h_120))
 (
  k38 t13_106 t14_107 h_108)
noncomputable def law19_SnapKept_L0 (call : CallF) (t0 : AV) (r46 : AV) (t51 : Int) (k38 : Int → Int → AHeap → R) : Nat → Int → Int → Int → AHeap → R := iterR (fun _ _ _ _ => none) (law19_SnapKept_L0b call t0 r46 t51 k38)
theorem law19_SnapKept_L0_s (call : CallF) (t0 : AV) (r46 : AV) (t51 : Int) (k38 : Int → Int → AHeap → R) (m : Nat) : law19_SnapKept_L0 call t0 r46 t51 k38 (m + 1) = law19_SnapKept_L0b call t0 r46 t51 k38 (law19_SnapKept_L0 call t0 r46 t51 k38 m) := rfl
noncomputable def law19_SnapKept (call : CallF) (n : Nat) (t0 : AV) (t1 : Int) (t2 : AV) (t3 : Int) (h : AHeap) : R :=
 callK (call 8 [] h) fun r21 h_4 =>
 obind (avBool r21) fun t21 =>
 lett (!t21) fun (t22 : Bool) =>
 ifB t22
 (
  some (.ret (.bool false), h_4))
 (
  obind (lenL t0) fun t24 =>
  lett (fun (t9 : Int) (h_15 : AHeap) =>
   lett (decide (t9 > 131072)) fun (t36 : Bool) =>
   lett (fun (t41 : Bool) (h_19 : AHeap) =>
    lett (fun (t45 : Bool) (h_22 : AHeap) =>
     ifB t45
     (
      some (.ret (.bool true), h_22))
     (
      callN (call 13 [] h_22) fun r46 h_27 =>
      callN (call 23 [r46, .int .i64 t1] h_27) fun r49 h_30 =>
      obind (avInt .i64 r49) fun _ =>
      obind (lenL t0) fun t51 =>
      lett (fun (t13 : Int) (t14 : Int) (h_39 : AHeap) =>
       callN (call 25 [r46, t2, .int .i64 t3] h_39) fun r76 h_42 =>
       obind (avInt .i64 r76) fun t76 =>
       lett ((t76 : Int) != 0) fun (t77 : Bool) =>
       ifB t77
       (
        some (.ret (.bool false), h_42))
       (
        callK (call 14 [r46] h_42) fun r80 h_48 =>
        obind (extT 0 r80) fun v81 =>
        obind (avAgg v81) fun t81 =>
        obind (extT 1 r80) fun v82 =>
        obind (avStr v82) fun t82 =>
        obind (extT 2 r80) fun v83 =>
        obind (avInt .i64 v83) fun t83 =>
        lett (newH h_48 39 [.int .i64 0, .int .i64 0]) fun h_56 =>
        obind (stRow h_56 2 t81 (newP h_48)) fun h_58 =>
        lett ((t83 : Int) == 4) fun (t85 : Bool) =>
        ifB t85
        (
         lett ((t13 : Int) == 0) fun (t87 : Bool) =>
         some (.ret (.bool t87), h_58))
        (
         lett ((t83 : Int) == 0) fun (t89 : Bool) =>
         lett (fun (t101 : Bool) (h_67 : AHeap) =>
          lett (fun (t106 : Bool) (h_70 : AHeap) =>
           lett (fun (t114 : Bool) (h_73 : AHeap) =>
            lett (fun (t124 : Bool) (h_76 : AHeap) =>
             some (.ret (.bool t124), h_76)) fun j124 =>
            ifB t114
            (
             obind (ldCell h_73 (AV.ptr (AHeap.next h_48) 0)) fun v119 =>
             obind (avInt .i64 v119) fun t119 =>
             lett (IntKind.i64.wrap (t119 - 1)) fun (t120 : Int) =>
             obind (idxP 1 t0 t120) fun t121 =>
             obind (ldCell h_73 t121) fun v122 =>
             obind (avStr v122) fun t122 =>
             lett (eqS t82 t122) fun (t123 : Bool) =>
             j124 t123 h_73)
            (
             j124 false h_73)) fun j114 =>
           ifB t106
           (
            obind (ldCell h_70 (AV.ptr (AHeap.next h_48) 1)) fun v109 =>
            obind (avInt .i64 v109) fun t109 =>
            obind (ldCell h_70 (AV.ptr (AHeap.next h_48) 0)) fun v111 =>
            obind (avInt .i64 v111) fun t111 =>
            lett (IntKind.i64.wrap (t111 - 1)) fun (t112 : Int) =>
            lett ((t109 : Int) == t112) fun (t113 : Bool) =>
            j114 t113 h_70)
           (
            j114 false h_70)) fun j106 =>
          ifB t101
          (
           obind (ldCell h_67 (AV.ptr (AHeap.next h_48) 0)) fun v104 =>
           obind (avInt .i64 v104) fun t104 =>
           lett (decide (t104 ≥ 1)) fun (t105 : Bool) =>
           j106 t105 h_67)
          (
           j106 false h_67)) fun j101 =>
         ifB t89
         (
          obind (ldCell h_58 (AV.ptr (AHeap.next h_48) 0)) fun v92 =>
          obind (avInt .i64 v92) fun t92 =>
          lett ((t92 : Int) == t13) fun (t94 : Bool) =>
          lett (fun (t100 : Bool) (h_98 : AHeap) =>
           j101 t100 h_98) fun j100 =>
          ifB t94
          (
           j100 true h_58)
          (
           obind (ldCell h_58 (AV.ptr (AHeap.next h_48) 0)) fun v97 =>
           obind (avInt .i64 v97) fun t97 =>
           lett ((t97 : Int) == t14) fun (t99 : Bool) =>
           j100 t99 h_58))
         (
          j101 false h_58)))) fun k38 =>
      law19_SnapKept_L0 call t0 r46 t51 k38 n 0 0 0 h_30)) fun j45 =>
    ifB t41
    (
     j45 true h_19)
    (
     lett (decide (t1 < 0)) fun (t44 : Bool) =>
     j45 t44 h_19)) fun j41 =>
   ifB t36
   (
    j41 true h_15)
   (
    obind (lenL t0) fun t39 =>
    lett (decide (t39 > 30)) fun (t40 : Bool) =>
    j41 t40 h_15)) fun k14 =>
  law19_SnapKept_L1 t0 t24 k14 n 0 0 h_4)
set_option maxHeartbeats 4000000 in
set_option maxRecDepth 20000 in
theorem law19_SnapKept_ok {call : CallF} (hc : SaysAll Try.prog call) {n : Nat} {t0 : AV} {t1 : Int} {t2 : AV} {t3 : Int} {h : AHeap} {rR : ARes} {hR : AHeap} (hF : law19_SnapKept call n t0 t1 t2 t3 h = some (rR, hR)) : Says Try.prog 7 [t0, .int .i64 t1, t2, .int .i64 t3] h rR hR := by
 unfold law19_SnapKept at hF
 refine sO Try.func7 fun w0 m0 => ?_
 refine wW [(0, t0), (1, .int .i64 t1), (2, t2), (3, .int .i64 t3)] ?_
 refine oG fun n1 => W.r ?_
 refine oA 8 (.bool false) ?_
 refine oV [(0, t0), (1, .int .i64 t1), (2, t2), (3, .int .i64 t3)] (n1 ?_)
 refine W.s (fun K2 n2 e2 q2 p2 => ?_)
 refine oJ fun n3 p3 => W.r ?_
 refine oCK hc (some 21) hF (fun q => p3 (p2 (Pf q))) fun r21 h_4 hF => ?_
 replace hF := obind_some hF; obtain ⟨t21, c6, hF⟩ := hF
 have c6 := avBool_some c6
 subst c6
 refine oB 22 hF fun t22 hF => ?_
 refine oV [(0, t0), (1, .int .i64 t1), (2, t2), (3, .int .i64 t3), (22, .bool t22)] (n3 ?_)
 cases t22 with
 | true =>
  refine oT hF fun hF => ?_
  refine oG fun n8 => W.r ?_
  refine oA 8 (.bool false) ?_
  refine oV [(8, .bool false)] (n8 (oY (q2 ?_)))
  exact lZ hF [.tmp 8] [.bool false] (rT res_nil)
 | false =>
  refine oU hF fun hF => ?_
  refine oZ (n2 ?_)
  refine oG fun n9 => W.r ?_
  refine oA 9 (.int .i64 0) ?_
  refine oV [(0, t0), (1, .int .i64 t1), (2, t2), (3, .int .i64 t3), (9, .int .i64 0)] (n9 ?_)
  refine W.s (fun K10 n10 e10 q10 p10 => ?_)
  refine oG fun n11 => W.r ?_
  refine oA 23 t0 ?_
  refine oM 24 81 9 hF fun t24 hF => ?_
  refine oA 25 (.int .i64 0) ?_
  refine oV [(0, t0), (1, .int .i64 t1), (2, t2), (3, .int .i64 t3), (9, .int .i64 0), (23, t0), (24, .int .i64 t24), (25, .int .i64 0)] (n11 ?_)
  obtain ⟨k14, e14, hF⟩ := lett_some hF
  have J14 : ∀ (t9 : Int) (h_15 : AHeap), k14 t9 h_15 = some (rR, hR) → Go w0 m0 (Func.ntmps Try.f7) (K10 .normal) [(0, t0), (1, .int .i64 t1), (2, t2), (3, .int .i64 t3), (9, .int .i64 t9)] [] h_15 := by
   intro t9 h_15 hF
   rw [e14] at hF
   refine n10 ?_
   refine oH fun n16 q16 => ?_
   refine W.s (fun K17 n17 e17 q17 p17 => ?_)
   refine W.r ?_
   refine oA 35 (.int .i64 t9) ?_
   refine oB 36 hF fun t36 hF => ?_
   refine oA 37 (.bool t36) ?_
   obtain ⟨j41, e20, hF⟩ := lett_some hF
   have J21 : ∀ (t41 : Bool) (h_19 : AHeap), j41 t41 h_19 = some (rR, hR) → WL Try.prog w0 m0 (Func.ntmps Try.f7) (Code.ops (Code.p1 (Code.p1 (Code.p2 (Code.p2 (Code.p2 (Code.p2 (codeOf Try.f7)))))))) 7 K17 [(0, t0), (1, .int .i64 t1), (2, t2), (3, .int .i64 t3), (41, .bool t41)] [] h_19 := by
    intro t41 h_19 hF
    rw [e20] at hF
    refine oA 42 (.bool t41) ?_
    obtain ⟨j45, e23, hF⟩ := lett_some hF
    have J24 : ∀ (t45 : Bool) (h_22 : AHeap), j45 t45 h_22 = some (rR, hR) → WL Try.prog w0 m0 (Func.ntmps Try.f7) (Code.ops (Code.p1 (Code.p1 (Code.p2 (Code.p2 (Code.p2 (Code.p2 (codeOf Try.f7)))))))) 11 K17 [(0, t0), (1, .int .i64 t1), (2, t2), (3, .int .i64 t3), (45, .bool t45)] [] h_22 := by
     intro t45 h_22 hF
     rw [e23] at hF
     refine oV [(0, t0), (1, .int .i64 t1), (2, t2), (3, .int .i64 t3), (45, .bool t45)] (n17 ?_)
     cases t45 with
     | true =>
      refine oT hF fun hF => ?_
      refine oG fun n25 => W.r ?_
      refine oA 8 (.bool true) ?_
      refine oV [(8, .bool true)] (n25 (oY (q16 ?_)))
      exact lZ hF [.tmp 8] [.bool true] (rT res_nil)
     | false =>
      refine oU hF fun hF => ?_
      refine oZ (n16 ?_)
      refine oG fun n26 => W.r ?_
      refine oC hc (some 46) hF fun r46 h_27 hF => ?_
      refine oA 12 r46 ?_
      refine oV [(0, t0), (1, .int .i64 t1), (2, t2), (3, .int .i64 t3), (12, r46)] (n26 ?_)
      refine oG fun n29 => W.r ?_
      refine oA 47 r46 ?_
      refine oA 48 (.int .i64 t1) ?_
      refine oCi hc 49 hF fun t49 h_30 hF => ?_
      refine oV [(0, t0), (2, t2), (3, .int .i64 t3), (12, r46)] (n29 ?_)
      refine oG fun n33 => W.r ?_
      refine oA 13 (.int .i64 0) ?_
      refine oA 14 (.int .i64 0) ?_
      refine oV [(0, t0), (2, t2), (3, .int .i64 t3), (12, r46), (13, .int .i64 0), (14, .int .i64 0)] (n33 ?_)
      refine W.s (fun K34 n34 e34 q34 p34 => ?_)
      refine oG fun n35 => W.r ?_
      refine oA 50 t0 ?_
      refine oM 51 81 9 hF fun t51 hF => ?_
      refine oA 52 (.int .i64 0) ?_
      refine oV [(0, t0), (2, t2), (3, .int .i64 t3), (12, r46), (13, .int .i64 0), (14, .int .i64 0), (50, t0), (51, .int .i64 t51), (52, .int .i64 0)] (n35 ?_)
      obtain ⟨k38, e38, hF⟩ := lett_some hF
      have J38 : ∀ (t13 : Int) (t14 : Int) (h_39 : AHeap), k38 t13 t14 h_39 = some (rR, hR) → Go w0 m0 (Func.ntmps Try.f7) (K34 .normal) [(0, t0), (2, t2), (3, .int .i64 t3), (12, r46), (13, .int .i64 t13), (14, .int .i64 t14)] [] h_39 := by
       intro t13 t14 h_39 hF
       rw [e38] at hF
       refine n34 ?_
       refine oH fun n40 q40 => ?_
       refine oG fun n41 => W.r ?_
       refine oA 73 r46 ?_
       refine oA 74 t2 ?_
       refine oA 75 (.int .i64 t3) ?_
       refine oCi hc 76 hF fun t76 h_42 hF => ?_
       refine oB 77 hF fun t77 hF => ?_
       refine oV [(0, t0), (12, r46), (13, .int .i64 t13), (14, .int .i64 t14), (77, .bool t77)] (n41 ?_)
       cases t77 with
       | true =>
        refine oT hF fun hF => ?_
        refine oG fun n46 => W.r ?_
        refine oA 8 (.bool false) ?_
        refine oV [(8, .bool false)] (n46 (oY (q40 ?_)))
        exact lZ hF [.tmp 8] [.bool false] (rT res_nil)
       | false =>
        refine oU hF fun hF => ?_
        refine oZ (n40 ?_)
        refine oJ fun n47 p47 => W.r ?_
        refine oA 79 r46 ?_
        refine oCK hc (some 80) hF (fun q => p47 (Pf q)) fun r80 h_48 hF => ?_
        refine oA 78 r80 ?_
        refine oEa 81 hF fun t81 hF => ?_
        refine oEs 82 hF fun t82 hF => ?_
        refine oEi 83 hF fun t83 hF => ?_
        refine oN 18 hF fun h_56 hF => ?_
        refine oW 39 (.agg t81) hF fun h_58 hF => ?_
        refine oA 19 (strA t82) ?_
        refine oA 20 (.int .i64 t83) ?_
        refine oV [(0, t0), (13, .int .i64 t13), (14, .int .i64 t14), (18, (newP h_48)), (19, strA t82), (20, .int .i64 t83)] (n47 ?_)
        refine oH fun n60 q60 => ?_
        refine oG fun n61 => W.r ?_
        refine oA 84 (.int .i64 t83) ?_
        refine oB 85 hF fun t85 hF => ?_
        refine oV [(0, t0), (13, .int .i64 t13), (14, .int .i64 t14), (18, (newP h_48)), (19, strA t82), (20, .int .i64 t83), (85, .bool t85)] (n61 ?_)
        cases t85 with
        | true =>
         refine oT hF fun hF => ?_
         refine oG fun n63 => W.r ?_
         refine oA 86 (.int .i64 t13) ?_
         refine oB 87 hF fun t87 hF => ?_
         refine oA 8 (.bool t87) ?_
         refine oV [(8, .bool t87)] (n63 (oY (q60 ?_)))
         exact lZ hF [.tmp 8] [.bool t87] (rT res_nil)
        | false =>
         refine oU hF fun hF => ?_
         refine oZ (n60 ?_)
         refine W.s (fun K65 n65 e65 q65 p65 => ?_)
         refine W.r ?_
         refine oA 88 (.int .i64 t83) ?_
         refine oB 89 hF fun t89 hF => ?_
         refine oA 90 (.bool t89) ?_
         obtain ⟨j101, e68, hF⟩ := lett_some hF
         have J69 : ∀ (t101 : Bool) (h_67 : AHeap), j101 t101 h_67 = some (rR, hR) → WL Try.prog w0 m0 (Func.ntmps Try.f7) (Code.ops (Code.p1 (Code.p2 (Code.p2 (Code.p2 (Code.p2 (Code.p2 (Code.p2 (Code.p2 (Code.p2 (Code.p2 (Code.p2 (Code.p2 (Code.p2 (codeOf Try.f7))))))))))))))) 14 K65 [(0, t0), (18, (newP h_48)), (19, strA t82), (101, .bool t101)] [] h_67 := by
          intro t101 h_67 hF
          rw [e68] at hF
          refine oA 102 (.bool t101) ?_
          obtain ⟨j106, e71, hF⟩ := lett_some hF
          have J72 : ∀ (t106 : Bool) (h_70 : AHeap), j106 t106 h_70 = some (rR, hR) → WL Try.prog w0 m0 (Func.ntmps Try.f7) (Code.ops (Code.p1 (Code.p2 (Code.p2 (Code.p2 (Code.p2 (Code.p2 (Code.p2 (Code.p2 (Code.p2 (Code.p2 (Code.p2 (Code.p2 (Code.p2 (codeOf Try.f7))))))))))))))) 19 K65 [(0, t0), (18, (newP h_48)), (19, strA t82), (106, .bool t106)] [] h_70 := by
           intro t106 h_70 hF
           rw [e71] at hF
           refine oA 107 (.bool t106) ?_
           obtain ⟨j114, e74, hF⟩ := lett_some hF
           have J75 : ∀ (t114 : Bool) (h_73 : AHeap), j114 t114 h_73 = some (rR, hR) → WL Try.prog w0 m0 (Func.ntmps Try.f7) (Code.ops (Code.p1 (Code.p2 (Code.p2 (Code.p2 (Code.p2 (Code.p2 (Code.p2 (Code.p2 (Code.p2 (Code.p2 (Code.p2 (Code.p2 (Code.p2 (codeOf Try.f7))))))))))))))) 27 K65 [(0, t0), (18, (newP h_48)), (19, strA t82), (114, .bool t114)] [] h_73 := by
            intro t114 h_73 hF
            rw [e74] at hF
            refine oA 115 (.bool t114) ?_
            obtain ⟨j124, e77, hF⟩ := lett_some hF
            have J78 : ∀ (t124 : Bool) (h_76 : AHeap), j124 t124 h_76 = some (rR, hR) → WL Try.prog w0 m0 (Func.ntmps Try.f7) (Code.ops (Code.p1 (Code.p2 (Code.p2 (Code.p2 (Code.p2 (Code.p2 (Code.p2 (Code.p2 (Code.p2 (Code.p2 (Code.p2 (Code.p2 (Code.p2 (codeOf Try.f7))))))))))))))) 37 K65 [(124, .bool t124)] [] h_76 := by
             intro t124 h_76 hF
             rw [e77] at hF
             refine oA 8 (.bool t124) ?_
             refine oV [(8, .bool t124)] (n65 (oY ?_))
             exact lZ hF [.tmp 8] [.bool t124] (rT res_nil)
            cases t114 with
            | true =>
             replace hF := ifB_t hF
             refine oA 116 (strA t82) ?_
             refine oA 117 t0 ?_
             refine oA 118 (AV.ptr (AHeap.next h_48) 0) ?_
             refine oLi 119 3 hF fun t119 hF => ?_
             refine oI 120 .i64 hF fun t120 hF => ?_
             refine oP 121 81 9 .i64 hF fun t121 hF => ?_
             refine oLs 122 9 hF fun t122 hF => ?_
             refine oB 123 hF fun t123 hF => ?_
             refine oA 124 (.bool t123) ?_
             exact lW _ (J78 _ _ hF)
            | false =>
             replace hF := ifB_f hF
             refine WL.o (some 116) ?_
             refine WL.o (some 117) ?_
             refine WL.o (some 118) ?_
             refine WL.o (some 119) ?_
             refine WL.o (some 120) ?_
             refine WL.o (some 121) ?_
             refine WL.o (some 122) ?_
             refine WL.o (some 123) ?_
             refine oA 124 (.bool false) ?_
             exact lW _ (J78 _ _ hF)
           cases t106 with
           | true =>
            replace hF := ifB_t hF
            refine oA 108 (AV.ptr (AHeap.next h_48) 1) ?_
            refine oLi 109 3 hF fun t109 hF => ?_
            refine oA 110 (AV.ptr (AHeap.next h_48) 0) ?_
            refine oLi 111 3 hF fun t111 hF => ?_
            refine oI 112 .i64 hF fun t112 hF => ?_
            refine oB 113 hF fun t113 hF => ?_
            refine oA 114 (.bool t113) ?_
            exact lW _ (J75 _ _ hF)
           | false =>
            replace hF := ifB_f hF
            refine WL.o (some 108) ?_
            refine WL.o (some 109) ?_
            refine WL.o (some 110) ?_
            refine WL.o (some 111) ?_
            refine WL.o (some 112) ?_
            refine WL.o (some 113) ?_
            refine oA 114 (.bool false) ?_
            exact lW _ (J75 _ _ hF)
          cases t101 with
          | true =>
           replace hF := ifB_t hF
           refine oA 103 (AV.ptr (AHeap.next h_48) 0) ?_
           refine oLi 104 3 hF fun t104 hF => ?_
           refine oB 105 hF fun t105 hF => ?_
           refine oA 106 (.bool t105) ?_
           exact lW _ (J72 _ _ hF)
          | false =>
           replace hF := ifB_f hF
           refine WL.o (some 103) ?_
           refine WL.o (some 104) ?_
           refine WL.o (some 105) ?_
           refine oA 106 (.bool false) ?_
           exact lW _ (J72 _ _ hF)
         cases t89 with
         | true =>
          replace hF := ifB_t hF
          refine oA 91 (AV.ptr (AHeap.next h_48) 0) ?_
          refine oLi 92 3 hF fun t92 hF => ?_
          refine oA 93 (.int .i64 t13) ?_
          refine oB 94 hF fun t94 hF => ?_
          refine oA 95 (.bool t94) ?_
          obtain ⟨j100, e99, hF⟩ := lett_some hF
          have J100 : ∀ (t100 : Bool) (h_98 : AHeap), j100 t100 h_98 = some (rR, hR) → WL Try.prog w0 m0 (Func.ntmps Try.f7) (Code.ops (Code.p1 (Code.p2 (Code.p2 (Code.p2 (Code.p2 (Code.p2 (Code.p2 (Code.p2 (Code.p2 (Code.p2 (Code.p2 (Code.p2 (Code.p2 (codeOf Try.f7))))))))))))))) 13 K65 [(0, t0), (18, (newP h_48)), (19, strA t82), (90, .bool true), (100, .bool t100)] [] h_98 := by
           intro t100 h_98 hF
           rw [e99] at hF
           refine oA 101 (.bool t100) ?_
           exact lW _ (J69 _ _ hF)
          cases t94 with
          | true =>
           replace hF := ifB_t hF
           refine WL.o (some 96) ?_
           refine WL.o (some 97) ?_
           refine WL.o (some 98) ?_
           refine WL.o (some 99) ?_
           refine oA 100 (.bool true) ?_
           exact lW _ (J100 _ _ hF)
          | false =>
           replace hF := ifB_f hF
           refine oA 96 (AV.ptr (AHeap.next h_48) 0) ?_
           refine oLi 97 3 hF fun t97 hF => ?_
           refine oA 98 (.int .i64 t14) ?_
           refine oB 99 hF fun t99 hF => ?_
           refine oA 100 (.bool t99) ?_
           exact lW _ (J100 _ _ hF)
         | false =>
          replace hF := ifB_f hF
          refine WL.o (some 91) ?_
          refine WL.o (some 92) ?_
          refine WL.o (some 93) ?_
          refine WL.o (some 94) ?_
          refine WL.o (some 95) ?_
          refine WL.o (some 96) ?_
          refine WL.o (some 97) ?_
          refine WL.o (some 98) ?_
          refine WL.o (some 99) ?_
          refine WL.o (some 100) ?_
          refine oA 101 (.bool false) ?_
          exact lW _ (J69 _ _ hF)
      refine W.blockK (by kernel_rfl) (fun K37 n37 s37 o37 q37 p37 => ?_)
      refine W.loopK (by kernel_rfl) (fun I105 K105 b105 n105 e105 q105 p105 => ?_)
      have L105 : ∀ (m : Nat) (t13_106 : Int) (t14_107 : Int) (t52 : Int) (h_108 : AHeap), law19_SnapKept_L0 call t0 r46 t51 k38 m t13_106 t14_107 t52 h_108 = some (rR, hR) → Go w0 m0 (Func.ntmps Try.f7) I105 [(0, t0), (2, t2), (3, .int .i64 t3), (12, r46), (13, .int .i64 t13_106), (14, .int .i64 t14_107), (50, t0), (51, .int .i64 t51), (52, .int .i64 t52)] [] h_108 := by
       intro m
       induction m with
       | zero => intro t13_106 t14_107 t52 h_108 hF; cases hF
       | succ m ih105 =>
        intro t13_106 t14_107 t52 h_108 hF
        rw [law19_SnapKept_L0_s] at hF; unfold law19_SnapKept_L0b at hF
        refine b105 ?_
        refine oG fun n109 => W.r ?_
        refine oB 53 hF fun t53 hF => ?_
        refine oV [(0, t0), (2, t2), (3, .int .i64 t3), (12, r46), (13, .int .i64 t13_106), (14, .int .i64 t14_107), (50, t0), (51, .int .i64 t51), (52, .int .i64 t52), (53, .bool t53)] (n109 ?_)
        refine W.s (fun K111 n111 e111 q111 p111 => ?_)
        cases t53 with
        | true =>
         refine oT hF fun hF => ?_
         refine oZ (n111 ?_)
         refine W.s (fun K112 n112 e112 q112 p112 => ?_)
         refine W.blockK (by kernel_rfl) (fun K113 n113 s113 o113 q113 p113 => ?_)
         refine oG fun n114 => W.r ?_
         refine oA 54 (.int .i64 t52) ?_
         refine oP 55 81 9 .i64 hF fun t55 hF => ?_
         refine oLs 56 9 hF fun t56 hF => ?_
         refine oA 15 (.int .i64 t52) ?_
         refine oA 16 (strA t56) ?_
         refine oV [(0, t0), (2, t2), (3, .int .i64 t3), (12, r46), (13, .int .i64 t13_106), (15, .int .i64 t52), (16, strA t56), (50, t0), (51, .int .i64 t51), (52, .int .i64 t52)] (n114 ?_)
         refine oJ fun n118 p118 => W.r ?_
         refine oA 57 r46 ?_
         refine oA 58 (.int .i64 t52) ?_
         refine oI 59 .i64 hF fun t59 hF => ?_
         refine oA 60 (.int .i64 t52) ?_
         refine oA 61 (.agg ([.int .i64 t59, .int .i64 t52] : List AV)) ?_
         refine oA 62 (strA t56) ?_
         refine oCK hc (some 63) hF (fun q => p118 (p113 (p112 (p105 (p37 (p34 (Pf q))))))) fun r63 h_120 hF => ?_
         replace hF := obind_some hF; obtain ⟨t63, c122, hF⟩ := hF
         have c122 := avInt_some c122
         subst c122
         refine oA 17 (.int .i64 t63) ?_
         refine oV [(0, t0), (2, t2), (3, .int .i64 t3), (12, r46), (13, .int .i64 t13_106), (15, .int .i64 t52), (17, .int .i64 t63), (50, t0), (51, .int .i64 t51), (52, .int .i64 t52)] (n118 ?_)
         refine oG fun n123 => W.r ?_
         refine oA 64 (.int .i64 t52) ?_
         refine oI 65 .i64 hF fun t65 hF => ?_
         refine oA 14 (.int .i64 t65) ?_
         refine oV [(0, t0), (2, t2), (3, .int .i64 t3), (12, r46), (13, .int .i64 t13_106), (14, .int .i64 t65), (15, .int .i64 t52), (17, .int .i64 t63), (50, t0), (51, .int .i64 t51), (52, .int .i64 t52)] (n123 ?_)
         refine W.s (fun K125 n125 e125 q125 p125 => ?_)
         refine oG fun n126 => W.r ?_
         refine oA 66 (.int .i64 t63) ?_
         refine oB 67 hF fun t67 hF => ?_
         refine oV [(0, t0), (2, t2), (3, .int .i64 t3), (12, r46), (13, .int .i64 t13_106), (14, .int .i64 t65), (15, .int .i64 t52), (17, .int .i64 t63), (50, t0), (51, .int .i64 t51), (52, .int .i64 t52), (67, .bool t67)] (n126 ?_)
         cases t67 with
         | true =>
          refine oT hF fun hF => ?_
          refine oH fun n128 q128 => ?_
          refine oG fun n129 => W.r ?_
          refine oA 68 (.int .i64 t63) ?_
          refine oB 69 hF fun t69 hF => ?_
          refine oV [(0, t0), (2, t2), (3, .int .i64 t3), (12, r46), (13, .int .i64 t13_106), (14, .int .i64 t65), (69, .bool t69)] (n129 ?_)
          cases t69 with
          | true =>
           refine oT hF fun hF => ?_
           refine oG fun n131 => W.r ?_
           refine oA 8 (.bool false) ?_
           refine oV [(8, .bool false)] (n131 (oY (q128 (q125 (q113 (q112 (q105 (q37 (q34 ?_)))))))))
           exact lZ hF [.tmp 8] [.bool false] (rT res_nil)
          | false =>
           refine oU hF fun hF => ?_
           refine oZ (n128 ?_)
           refine W.exit (by kernel_rfl) ?_
           refine e125 ?_
           refine o113 (by kernel_rfl) ?_
           refine e112 (e105 ?_)
           refine s37 (by kernel_rfl) ?_
           exact gW _ (J38 _ _ _ hF)
         | false =>
          refine oU hF fun hF => ?_
          refine oZ (n125 (W.r ?_))
          refine oA 70 (.int .i64 t52) ?_
          refine oI 71 .i64 hF fun t71 hF => ?_
          refine oA 13 (.int .i64 t71) ?_
          refine oV [(0, t0), (2, t2), (3, .int .i64 t3), (12, r46), (13, .int .i64 t71), (14, .int .i64 t65), (50, t0), (51, .int .i64 t51), (52, .int .i64 t52)] (n113 (n112 (W.r ?_)))
          refine oI 72 .i64 hF fun t72 hF => ?_
          refine oA 52 (.int .i64 t72) ?_
          refine oV [(0, t0), (2, t2), (3, .int .i64 t3), (12, r46), (13, .int .i64 t71), (14, .int .i64 t65), (50, t0), (51, .int .i64 t51), (52, .int .i64 t72)] (n105 ?_)
          exact gW _ (ih105 _ _ _ _ hF)
        | false =>
         refine oU hF fun hF => ?_
         refine W.exit (by kernel_rfl) ?_
         refine e111 (e105 ?_)
         refine s37 (by kernel_rfl) ?_
         exact gW _ (J38 _ _ _ hF)
      exact gW _ (L105 _ _ _ _ _ hF)
    cases t41 with
    | true =>
     replace hF := ifB_t hF
     refine WL.o (some 43) ?_
     refine WL.o (some 44) ?_
     refine oA 45 (.bool true) ?_
     exact lW _ (J24 _ _ hF)
    | false =>
     replace hF := ifB_f hF
     refine oA 43 (.int .i64 t1) ?_
     refine oB 44 hF fun t44 hF => ?_
     refine oA 45 (.bool t44) ?_
     exact lW _ (J24 _ _ hF)
   cases t36 with
   | true =>
    replace hF := ifB_t hF
    refine WL.o (some 38) ?_
    refine WL.o (some 39) ?_
    refine WL.o (some 40) ?_
    refine oA 41 (.bool true) ?_
    exact lW _ (J21 _ _ hF)
   | false =>
    replace hF := ifB_f hF
    refine oA 38 t0 ?_
    refine oM 39 81 9 hF fun t39 hF => ?_
    refine oB 40 hF fun t40 hF => ?_
    refine oA 41 (.bool t40) ?_
    exact lW _ (J21 _ _ hF)
  refine W.blockK (by kernel_rfl) (fun K13 n13 s13 o13 q13 p13 => ?_)
  refine W.loopK (by kernel_rfl) (fun I138 K138 b138 n138 e138 q138 p138 => ?_)
  have L138 : ∀ (m : Nat) (t9_139 : Int) (t25 : Int) (h_140 : AHeap), law19_SnapKept_L1 t0 t24 k14 m t9_139 t25 h_140 = some (rR, hR) → Go w0 m0 (Func.ntmps Try.f7) I138 [(0, t0), (1, .int .i64 t1), (2, t2), (3, .int .i64 t3), (9, .int .i64 t9_139), (23, t0), (24, .int .i64 t24), (25, .int .i64 t25)] [] h_140 := by
   intro m
   induction m with
   | zero => intro t9_139 t25 h_140 hF; cases hF
   | succ m ih138 =>
    intro t9_139 t25 h_140 hF
    rw [law19_SnapKept_L1_s] at hF; unfold law19_SnapKept_L1b at hF
    refine b138 ?_
    refine oG fun n141 => W.r ?_
    refine oB 26 hF fun t26 hF => ?_
    refine oV [(0, t0), (1, .int .i64 t1), (2, t2), (3, .int .i64 t3), (9, .int .i64 t9_139), (23, t0), (24, .int .i64 t24), (25, .int .i64 t25), (26, .bool t26)] (n141 ?_)
    refine W.s (fun K143 n143 e143 q143 p143 => ?_)
    cases t26 with
    | true =>
     refine oT hF fun hF => ?_
     refine oZ (n143 ?_)
     refine oG fun n144 => ?_
     refine W.blockK (by kernel_rfl) (fun K145 n145 s145 o145 q145 p145 => ?_)
     refine oG fun n146 => W.r ?_
     refine oP 27 81 9 .i64 hF fun t27 hF => ?_
     refine oLs 28 9 hF fun t28 hF => ?_
     refine oA 11 (strA t28) ?_
     refine oV [(0, t0), (1, .int .i64 t1), (2, t2), (3, .int .i64 t3), (9, .int .i64 t9_139), (11, strA t28), (23, t0), (24, .int .i64 t24), (25, .int .i64 t25)] (n146 (W.r ?_))
     refine oA 29 (.int .i64 t9_139) ?_
     refine oA 30 (strA t28) ?_
     refine oA 31 (.int .i64 (lenS t28)) ?_
     refine oI 32 .i64 hF fun t32 hF => ?_
     refine oI 33 .i64 hF fun t33 hF => ?_
     refine oA 9 (.int .i64 t33) ?_
     refine oV [(0, t0), (1, .int .i64 t1), (2, t2), (3, .int .i64 t3), (9, .int .i64 t33), (23, t0), (24, .int .i64 t24), (25, .int .i64 t25)] (n145 (n144 (W.r ?_)))
     refine oI 34 .i64 hF fun t34 hF => ?_
     refine oA 25 (.int .i64 t34) ?_
     refine oV [(0, t0), (1, .int .i64 t1), (2, t2), (3, .int .i64 t3), (9, .int .i64 t33), (23, t0), (24, .int .i64 t24), (25, .int .i64 t34)] (n138 ?_)
     exact gW _ (ih138 _ _ _ hF)
    | false =>
     refine oU hF fun hF => ?_
     refine W.exit (by kernel_rfl) ?_
     refine e143 (e138 ?_)
     refine s13 (by kernel_rfl) ?_
     exact gW _ (J14 _ _ hF)
  exact gW _ (L138 _ _ _ _ hF)
theorem slc_rdi {lo : Nat → Prop} {N : Nat} {h : AHeap} {v : AV} {zs : List Int} (k : Slc N h 1 v (zs.map fun z => [.int .i64 z])) (hN : N ≤ h.next) (hl : ∀ b, lo b → N ≤ b) : RdI lo h v zs := by
 refine ⟨by have := k.len; rw [List.length_map] at this; exact this, fun S H t hS i hi => ?_⟩
 obtain ⟨b, _, h1, h2⟩ := (k.tch t hN fun b hb => hl b (hS b hb)).cell (f := .int .i64) hi
 exact ⟨_, h1, h2⟩
set_option maxRecDepth 100000 in
theorem ints_arg {N m : Nat} {h : AHeap} {a : AV} (hp : ArgP Try.prog N h (m + 5) 44 a) : ∃ zs : List Int, Slc N h 1 a (zs.map fun z => [.int .i64 z]) ∧ zs.length < 9223372036854775808 := by
 obtain ⟨ls, h1, h2, h3⟩ := hp.slice Try.underlying44
 obtain ⟨zs, rfl, _⟩ := ints_of Try.underlying3 h3
 have hc : Try.prog.cellsOf 3 = 1 := by kernel_rfl
 have hb : Try.prog.bytesOf 3 = 8 := by kernel_rfl
 have hrb : reachBytes = 140737488351232 := rfl
 rw [hc] at h1
 rw [hb, List.length_map] at h2
 exact ⟨zs, h1, by omega⟩
set_option maxRecDepth 100000 in
theorem strs_arg {N m : Nat} {h : AHeap} {a : AV} (hp : ArgP Try.prog N h (m + 5) 81 a) : ∃ ss : List Bytes, Slc N h 1 a (ss.map fun u => [strA u]) ∧ ss.length < 140737488351232 := by
 obtain ⟨ls, h1, h2, h3⟩ := hp.slice Try.underlying81
 obtain ⟨ss, rfl, _⟩ := strs_of Try.underlying9 h3
 have hc : Try.prog.cellsOf 9 = 1 := by kernel_rfl
 have hb : Try.prog.bytesOf 9 = 16 := by kernel_rfl
 have hrb : reachBytes = 140737488351232 := rfl
 rw [hc] at h1
 rw [hb, List.length_map] at h2
 exact ⟨ss, h1, by omega⟩
def sumW : List Bytes → Int → Int
 | [], z => z
 | u :: l, z => sumW l (IntKind.i64.wrap (z + (if 262144 < lenS u then 262144 else lenS u)))
def tot : List Bytes → Nat
 | [] => 0
 | u :: l => min 262144 u.length + tot l
theorem sumW_eq : ∀ (l : List Bytes) (z : Int), 0 ≤ z → z + 262144 * l.length < 1000000000 → sumW l z = z + tot l
 | [], z, _, _ => by
  show z = z + 0
  omega
 | u :: l, z, h0, h1 => by
  have lu := lenS_nat u
  rw [List.length_cons] at h1
  have e : (if 262144 < lenS u then 262144 else lenS u) = ((min 262144 u.length : Nat) : Int) := by
   rw [lu]
   split <;> omega
  show sumW l (IntKind.i64.wrap (z + (if 262144 < lenS u then 262144 else lenS u))) = z + ((min 262144 u.length + tot l : Nat) : Int)
  rw [e, wrap_i64 (by omega) (by omega), sumW_eq l _ (by omega) (by omega)]
  omega
theorem tot_mem : ∀ (l : List Bytes), ∀ u ∈ l, min 262144 u.length ≤ tot l
 | v :: l, u, hu => by
  show _ ≤ min 262144 v.length + tot l
  rcases List.mem_cons.1 hu with rfl | h
  ·omega
  ·have := tot_mem l u h
   omega
theorem sums_loop {N : Nat} {h : AHeap} {a : AV} {ls : List Bytes} (hs : Slc N h 1 a (ls.map fun u => [strA u])) (hl : ls.length < 140737488351232) {k14 : Int → AHeap → R} {Q : ARes → AHeap → Prop} (hk : Wp (k14 (sumW ls 0) h) Q) :
  ∀ (todo : List Bytes) (i fu : Nat) (z : Int), ls.drop i = todo → todo.length < fu → sumW todo z = sumW ls 0 → Wp (law19_SnapKept_L1 a (ls.length : Int) k14 fu z (i : Int) h) Q
 | _, _, 0, _, _, hf, _ => by omega
 | [], i, fu + 1, z, hd, _, hz => by
  have := dropN hd
  have hz' : z = sumW ls 0 := hz
  rw [law19_SnapKept_L1_s]
  unfold law19_SnapKept_L1b
  refine Wp.lett (Wp.iff (by rw [decide_eq_false_iff_not]; omega) ?_)
  rw [hz']
  exact hk
 | u :: todo, i, fu + 1, z, hd, hf, hz => by
  obtain ⟨hi, hci, hd2⟩ := dropC hd
  rw [List.length_cons] at hf
  obtain ⟨b, _, e1, e2⟩ := hs.cell (f := strA) hi
  rw [hci] at e2
  rw [law19_SnapKept_L1_s]
  unfold law19_SnapKept_L1b
  refine Wp.lett (Wp.ift (by rw [decide_eq_true_eq]; omega) (Wp.obind e1 (Wp.obind e2 (Wp.obind (avStr_str _) (Wp.lett (Wp.lett (Wp.lettw (by omega) (by omega) ?_)))))))
  rw [show (i : Int) + 1 = ((i + 1 : Nat) : Int) by omega]
  exact sums_loop hs hl hk todo (i + 1) fu _ hd2 (by omega) hz
theorem Gd.fine {l : List Bytes} {i f b : Nat} {s : DS} (G : Gd l i f b s) : FineC (s.fs 2) ∧ FineC (s.fs 3) := by
 have h1 := G.cf.fi
 have h2 := G.cb.fi
 rcases G.fb with ⟨rfl, rfl⟩ | ⟨rfl, rfl, _⟩
 ·exact ⟨h1, h2⟩
 ·exact ⟨h2, h1⟩
theorem Cr.fine {l : List Bytes} {i la f b : Nat} {s : DS} (G : Cr l i la f b s) : FineC (s.fs 2) ∧ FineC (s.fs 3) := by
 have h1 := G.ff
 have h2 := G.fB
 rcases G.fb with ⟨rfl, rfl⟩ | ⟨rfl, rfl⟩
 ·exact ⟨h1, h2⟩
 ·exact ⟨h2, h1⟩
section
variable {n d D db : Nat} {h0 : AHeap} {a : AV} {ls : List Bytes} {Q : ARes → AHeap → Prop}
theorem kept_loop (hn : 2000000000 < n) (hs : Slc h0.next h0 1 a (ls.map fun u => [strA u])) (hl : ls.length ≤ 30) (hu : ∀ u ∈ ls, u.length ≤ 131072) {k38 : Int → Int → AHeap → R}
  (hk : ∀ H lo s B su la f b, (Gd ls su f b s ∧ la = su ∨ Mi ls su f b s ∧ la = su + 1) → At lo H db s B → B ≤ 300000 → (∀ b, lo b → h0.next ≤ b) → Tch [] h0 H → Wp (k38 (su : Int) (la : Int) H) Q) :
  ∀ (todo : List Bytes) (i fu : Nat) (H : AHeap) (lo : Nat → Prop) (s : DS) (B f b : Nat), ls.drop i = todo → todo.length < fu → Gd ls i f b s → At lo H db s B → B + 2 * tot todo + 61 * todo.length ≤ 300000 → (∀ b, lo b → h0.next ≤ b) → Tch [] h0 H →
   Wp (law19_SnapKept_L0 (wL n (D + 6) (d + 9) false) a (.ptr db 0) (ls.length : Int) k38 fu (i : Int) (i : Int) (i : Int) H) Q
 | _, _, 0, _, _, _, _, _, _, _, hf, _, _, _, _, _ => by omega
 | [], i, fu + 1, H, lo, s, B, f, b, hd, _, G, K, hB, hlo, T => by
  have := dropN hd
  rw [law19_SnapKept_L0_s]
  unfold law19_SnapKept_L0b
  refine Wp.lett (Wp.iff (by rw [decide_eq_false_iff_not]; omega) ?_)
  exact hk H lo s B i i f b (.inl ⟨G, rfl⟩) K (by omega) hlo T
 | u :: todo, i, fu + 1, H, lo, s, B, f, b, hd, hf, G, K, hB, hlo, T => by
  obtain ⟨hi, hci, hd2⟩ := dropC hd
  rw [List.length_cons] at hf hB
  have hui : ls[i].length ≤ 131072 := hu _ (List.getElem_mem hi)
  have htot : tot (u :: todo) = min 262144 ls[i].length + tot todo := by rw [hci]; rfl
  have hv := snap_len2 ⟨((i + 1 : Nat) : Int), (i : Int)⟩ ls[i]
  have hs2 := hs.tch T (Nat.le_refl _) (fun b hb => nomatch hb)
  obtain ⟨c, _, e1, e2⟩ := hs2.cell (f := strA) hi
  obtain ⟨h4, S4, lo4, e4, K4, t4, hS4, hl4⟩ := Save_w (n := n) (D := D) (d := d + 1) (m := ⟨((i + 1 : Nat) : Int), (i : Int)⟩) (u := ls[i]) K (by omega) (by omega) G.fine.1 G.fine.2 hn
  have T4 : Tch [] h0 h4 := T.trans' t4 fun b hb => .inr (hlo b (hS4 b hb))
  have hlo4 : ∀ b, lo4 b → h0.next ≤ b := fun b hb => hlo b (hl4 b hb)
  have hi1 : (i : Int) + 1 = ((i + 1 : Nat) : Int) := by omega
  rw [law19_SnapKept_L0_s]
  unfold law19_SnapKept_L0b
  refine Wp.lett (Wp.ift (by rw [decide_eq_true_eq]; omega) (Wp.obind e1 (Wp.obind e2 (Wp.obind (avStr_str _) (Wp.lettw (by omega) (by omega) ?_)))))
  rw [hi1]
  refine Wp.callK e4 (Wp.obind (avInt_int _ _) (Wp.lettw (by omega) (by omega) (Wp.lett ?_)))
  rcases G.save hi (by omega) (by omega) with ⟨h1, G4⟩ | ⟨h1, M4⟩
  ·rw [h1]
   refine Wp.iff rfl (Wp.lettw (by omega) (by omega) (Wp.lettw (by omega) (by omega) ?_))
   exact kept_loop hn hs hl hu hk todo (i + 1) fu h4 lo4 _ _ b f hd2 (by omega) G4 K4 (by omega) hlo4 T4
  ·rw [h1]
   exact Wp.ift rfl (Wp.lett (Wp.iff rfl (hk h4 lo4 _ _ i (i + 1) f b (.inr ⟨M4, rfl⟩) K4 (by omega) hlo4 T4)))
end
set_option maxRecDepth 100000 in
set_option maxHeartbeats 1000000 in
theorem snapKept_says (h : AHeap) (hX : h.ex = [89]) (xs : List AV) (hP : ArgsP Try.prog h.next h 12 [81, 3, 44, 3] xs) : ∃ h', Says Try.prog 7 xs h (.ret (.bool true)) h' := by
 obtain ⟨a, _, rfl, hp0, hP⟩ := args_cons hP
 obtain ⟨a1, _, rfl, hp1, hP⟩ := args_cons hP
 obtain ⟨kv, _, rfl, hp2, hP⟩ := args_cons hP
 obtain ⟨a3, _, rfl, hp3, hP⟩ := args_cons hP
 obtain rfl := args0 hP
 obtain ⟨ls, hs, hll⟩ := strs_arg hp0
 obtain ⟨pw, rfl, wpw⟩ := hp1.int Try.underlying3
 obtain ⟨zs, hz, hzl⟩ := ints_arg hp2
 obtain ⟨torn, rfl, wtn⟩ := hp3.int Try.underlying3
 have ipw := (wf_i64 wpw).2
 have itn := (wf_i64 wtn).2
 obtain ⟨n, hn⟩ : ∃ n, 140737488351232 < n := ⟨140737488351233, Nat.lt_succ_self _⟩
 suffices hK : Wp (law19_SnapKept (wL n (0 + 6) (0 + 9) false) n a pw kv torn h) fun r _ => r = .ret (.bool true) by
  obtain ⟨_, h', e, rfl⟩ := hK
  exact ⟨h', law19_SnapKept_ok (wL_ok n (0 + 6) (0 + 9)).says e⟩
 unfold law19_SnapKept
 obtain ⟨h2, e2, S2, t2, hS2⟩ := works_w (n := n) (D := 0) (d := 0) hX (by omega)
 have T2 : Tch [] h h2 := t2.mono fun b hb => .inr (hS2 b hb)
 have hlen := hs.len
 rw [List.length_map] at hlen
 have hs2 := hs.tch T2 (Nat.le_refl _) (fun b hb => nomatch hb)
 refine Wp.callK e2 (Wp.obind (avBool_bool _) (Wp.lett (Wp.iff rfl (Wp.obind hlen (Wp.lettG fun k14 e14 => ?_)))))
 refine sums_loop hs2 hll ?_ ls 0 n 0 rfl (by omega) rfl
 rw [e14]
 refine Wp.lett (Wp.lettG fun j41 e41 => ?_)
 have T41 : Wp (j41 true h2) fun r _ => r = .ret (.bool true) := by
  rw [e41]
  refine Wp.lettG fun j45 e45 => Wp.ift rfl ?_
  rw [e45]
  exact Wp.ift rfl (Wp.ret rfl)
 by_cases hb1 : sumW ls 0 > 131072
 ·exact Wp.ift (decide_eq_true hb1) T41
 refine Wp.iff (decide_eq_false hb1) (Wp.obind hlen (Wp.lett ?_))
 by_cases hb2 : (ls.length : Int) > 30
 ·rw [decide_eq_true hb2]
  exact T41
 rw [decide_eq_false hb2, e41]
 refine Wp.lettG fun j45 e45 => Wp.iff rfl (Wp.lett ?_)
 by_cases hb3 : pw < 0
 ·rw [decide_eq_true hb3, e45]
  exact Wp.ift rfl (Wp.ret rfl)
 rw [decide_eq_false hb3, e45]
 have htot := sumW_eq ls 0 (by omega) (by omega)
 have hu : ∀ u ∈ ls, u.length ≤ 131072 := fun u hu => by
  have := tot_mem ls u hu
  omega
 obtain ⟨h3, e3, K3, t3⟩ := new_ok (n := n) (d := 5) (h := h2) (by rw [T2.2.1, hX])
 obtain ⟨h4, S4, e4, K4, t4, hS4⟩ := power_ok (n := n) (d := 5) (m := pw) ipw K3
 have T4 : Tch [] h h4 := (T2.trans t3).trans' t4 fun b hb => .inr (Nat.le_trans T2.1 (hS4 b hb))
 refine Wp.iff rfl (Wp.callN ((wL_b 13).trans e3) (Wp.callN ((wL_b 23).trans e4) (Wp.obind (avInt_int _ _) (Wp.obind hlen (Wp.lettG fun k38 e38 => ?_)))))
 refine kept_loop (n := n) (D := 0) (d := 0) (h0 := h) (by omega) hs (by omega) hu (fun H lo s B su la f b R K hB hlo T => ?_) ls 0 n h4 _ _ 0 2 3 rfl (by omega) (gd_new ls _) K4 (by omega) (fun b hb => Nat.le_trans T2.1 hb) T4
 have hzH := hz.tch T (Nat.le_refl _) (fun b hb => nomatch hb)
 obtain ⟨h20, S20, e20, K20, t20, hS20⟩ := crash_ok (n := n) (d := 2) (torn := torn) (by omega) (by omega) itn hzl K (slc_rdi hzH T.1 hlo)
 have C : Cr ls su la f b (crashD s zs torn) := by
  rcases R with ⟨G, rfl⟩ | ⟨M, rfl⟩
  ·exact G.crash zs torn
  ·exact M.crash (by omega) (fun u hu' => by have := hu u hu'; omega) zs torn
 have hj : ∃ j : Nat, loadO (crashD s zs torn) = lab ls j ∧ (j = su ∨ j = la) ∧ j ≤ ls.length ∧ (j = 0 → su = 0) := by
  rcases load_cr C with h | ⟨h, h1, h2⟩
  ·exact ⟨su, h, .inl rfl, C.hi, id⟩
  ·exact ⟨la, h, .inr rfl, h2, fun h => by omega⟩
 obtain ⟨j, hj, hjs, hjl, hj0⟩ := hj
 have z2 := K20.seen_len (z := 2) (by decide)
 have z3 := K20.seen_len (z := 3) (by decide)
 obtain ⟨h21, e21, t21⟩ := Load_w (n := n) (D := 0) (d := 2) K20 (show ¬ (-1 : Int) = 0 by decide) (by omega) (by omega) C.fine.1 C.fine.2 (by omega)
 rw [hj] at e21
 have T21 := (T.trans' t20 fun b hb => .inr (hlo b (hS20 b hb))).trans t21
 rw [e38]
 refine Wp.callN ((wL_b 25).trans e20) (Wp.obind (avInt_int _ _) (Wp.lett (Wp.iff rfl (Wp.callK e21 (Wp.obind (extT_0 _ _) (Wp.obind (avAgg_agg _) (Wp.obind (extT_1 _ _ _) (Wp.obind (avStr_str _) (Wp.obind (extT_2 _ _ _ _) (Wp.obind (avInt_int _ _) (Wp.mnew (Mem.nil [] h21) fun h22 M22 => ?_)))))))))))
 rw [newP_eq h21]
 refine Wp.sa0 M22 rfl rfl rfl fun h23 M23 => ?_
 cases j with
 | zero =>
  rw [show lab ls 0 = none from rfl, hj0 rfl]
  exact Wp.lett (Wp.ift rfl (Wp.lett (Wp.ret rfl)))
 | succ j =>
  rw [lab_some (show j < ls.length by omega)] at M23 ⊢
  rw [show mkC (mkO (some ((⟨((j + 1 : Nat) : Int), (j : Int)⟩ : Mk), ls[j]))) = [.int .i64 ((j + 1 : Nat) : Int), .int .i64 (j : Int)] from rfl] at M23
  have hsj := (hs.tch (T21.trans M23.tch) (Nat.le_refl _) (fun b hb => nomatch hb)).cell (f := strA) (show j < ls.length by omega)
  obtain ⟨c, _, c1, c2⟩ := hsj
  refine Wp.lett (Wp.iff rfl (Wp.lett (Wp.lettG fun j101 e101 => Wp.ift rfl (Wp.ld0 M23 rfl (Wp.obind (avInt_int _ _) (Wp.lett (Wp.lettG fun j100 e100 => ?_)))))))
  have fin : Wp (j100 true h23) fun r _ => r = .ret (.bool true) := by
   rw [e100, e101]
   refine Wp.lettG fun j106 e106 => Wp.ift rfl (Wp.ld0 M23 rfl (Wp.obind (avInt_int _ _) (Wp.lett ?_)))
   rw [decide_eq_true (show ((j + 1 : Nat) : Int) ≥ 1 by omega), e106]
   refine Wp.lettG fun j114 e114 => Wp.ift rfl (Wp.ld0 M23 rfl (Wp.obind (avInt_int _ _) (Wp.ld0 M23 rfl (Wp.obind (avInt_int _ _) (Wp.lettw (by omega) (by omega) (Wp.lett ?_))))))
   rw [show ((j + 1 : Nat) : Int) - 1 = (j : Int) by omega, beq_t rfl, e114]
   refine Wp.lettG fun j124 e124 => Wp.ift rfl (Wp.ld0 M23 rfl (Wp.obind (avInt_int _ _) (Wp.lettw (by omega) (by omega) ?_)))
   rw [show ((j + 1 : Nat) : Int) - 1 = (j : Int) by omega]
   refine Wp.obind c1 (Wp.obind c2 (Wp.obind (avStr_str _) (Wp.lett ?_)))
   rw [eqS_true.2 (show txO (some ((⟨((j + 1 : Nat) : Int), (j : Int)⟩ : Mk), ls[j])) = ls[j] from rfl), e124]
   exact Wp.ret rfl
  by_cases h1 : j + 1 = su
  ·exact Wp.ift (beq_t (by rw [← h1])) fin
  ·have h2 : j + 1 = la := hjs.resolve_left h1
   refine Wp.iff (beq_f fun h => h1 (by omega)) (Wp.ld0 M23 rfl (Wp.obind (avInt_int _ _) (Wp.lett ?_)))
   rw [beq_t (show ((j + 1 : Nat) : Int) = (la : Int) by rw [← h2])]
   exact fin
end Go.Proofs.Ytpnccmlajhhpdaa
