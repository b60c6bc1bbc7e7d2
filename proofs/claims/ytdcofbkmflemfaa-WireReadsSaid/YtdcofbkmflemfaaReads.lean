/- 'dragomanlaw01.WireReads': the walk: true, whatever the input. -/
import Derived.Test.YtdcofbkmflemfaaAlike
import Derived.RegionCalls
import Derived.Deep.RegionWith
namespace Go.Proofs.Ytdcofbkmflemfaa
open Go.RowKit

/-- A call that the law asks of both: its kind, how many, how much. -/
structure Ask where
  kind : Int
  count : Int
  most : Int

/-- A value that reads as a list of such calls. -/
structure Asks (W : World) (v : Value) (l : List Ask) : Prop where
  cells : ∃ (a : Option Addr) (cap : Nat), v = .slice a l.length cap ∧ (l = [] ∨ ∃ b o, a = some ⟨b, o, none⟩ ∧ b < W.heap.size ∧
    ∀ i (hi : i < l.length), W.cell? ⟨b, o + i * 3, none⟩ = some (.int .i64 l[i].kind) ∧ W.cell? ⟨b, o + i * 3 + 1, none⟩ = some (.int .i64 l[i].count) ∧ W.cell? ⟨b, o + i * 3 + 2, none⟩ = some (.int .i64 l[i].most))
  small : ∀ x ∈ l, x.count ≤ 9223372036854775807 ∧ x.most ≤ 9223372036854775807

section
variable {P : Program} {ops : Array Oper} {Q : Exit → Act → World → Prop} {md : Region.Mode} {S : World → Prop}
theorem takeA {i : Nat} {oi : Oper} {d : Option Tmp} {v : Value} {fuel : Nat} {listed : Array Bool} {a : Act} {w : World} (hi : ops[i]? = some oi) (hd : oi.dst = d)
    (hs : Region.noSelect ops = true) (hf : Region.free md ops listed i = true) (hr : (Region.ready md ops listed).contains i = true)
    (hQ : ∀ c a w, Q (.panic c) (a.put oi.dst v) w → Q (.panic c) a w) (hy : Yields P ops oi v a)
    (h : wpAny P md ops Q fuel (listed.setIfInBounds i true) (a.put d v) w) : wpAny P md ops Q (fuel + 1) listed a w := by
  subst hd
  exact wpAny_take hi hs hf hr hQ hy h
theorem takeH {i : Nat} {oi : Oper} {d : Option Tmp} {v : Value} {fuel : Nat} {listed : Array Bool} {a : Act} {w : World} (hi : ops[i]? = some oi) (hd : oi.dst = d)
    (hs : Region.noSelect ops = true) (hf : Region.free md ops listed i = true) (hr : (Region.ready md ops listed).contains i = true)
    (hQ : ∀ c a w, Q (.panic c) (a.put oi.dst v) w → Q (.panic c) a w) (hy : YieldsIf P ops S oi v a) (hS : S w)
    (h : wpAnyH P md ops Q S fuel (listed.setIfInBounds i true) (a.put d v) w) : wpAnyH P md ops Q S (fuel + 1) listed a w := by
  subst hd
  exact wpAnyH_take hi hs hf hr hQ hy hS h
end

/-- What a reader of the reference's has told of its fault. -/
def RefC (c : Nat) (e b : Int) (w : World) : Prop := w.cell? ⟨c, 2, none⟩ = some (.int .i64 e) ∧ w.cell? ⟨c, 3, none⟩ = some (.int .i64 b)

/-- Where both stand behind all of them. -/
def stepsF (s : ByteArray) : List Ask → St → St
  | [], t => t
  | a :: l, t => stepsF s l (stepF s a.kind a.count a.most t)

set_option maxHeartbeats 1000000 in
theorem reads_long (s : ByteArray) (v : Value) (l : List Ask) (W : World) (h : Asks W v l) (hl : l.length ≤ 9223372036854775807) (hbig : 65536 < s.size ∨ 200 < l.length) (hs : s.size ≤ 140737488351232) :
    Calls Try.prog 5 #[.string s, v] W fun e w' => e = .returned (.bool true) ∧ Below W.heap.size W w' := by
  obtain ⟨a, cap, rfl, _⟩ := h.cells
  clear h
  have HB := Lib.hid hbig; clear hbig
  by_cases h1 : 65536 < s.size
  · go_enter Try.func5, Try.ntmps5
    go_wp2_with fail
    refine (works_any _).mono ?_
    rintro e w1 ⟨rfl, hb⟩
    have H1 := Lib.hid hb; clear hb
    go_wp2_with fail
    go_ret
    exact ⟨rfl, H1.out⟩
  · have h2 : 200 < l.length := by rcases HB.out with h | h <;> omega
    go_enter Try.func5, Try.ntmps5
    go_wp2_with fail
    refine (works_any _).mono ?_
    rintro e w1 ⟨rfl, hb⟩
    have H1 := Lib.hid hb; clear hb
    go_wp2_with fail
    go_ret
    exact ⟨rfl, H1.out⟩

set_option maxHeartbeats 4000000 in
set_option maxRecDepth 100000 in
theorem reads_main (s : ByteArray) (v : Value) (l : List Ask) (W : World) (h : Asks W v l) (hl : l.length ≤ 200) (hs : s.size ≤ 65536) :
    Calls Try.prog 5 #[.string s, v] W fun e w' => e = .returned (.bool true) ∧ Below W.heap.size W w' := by
  have hsm := h.small
  obtain ⟨a, cap, rfl, hcells⟩ := h.cells
  have HC := Lib.hid hcells
  have HM := Lib.hid hsm
  clear h hcells hsm
  have g1 : decide ((65536 : Int) < (s.size : Int)) = false := decide_eq_false (by omega)
  have g2 : decide ((200 : Int) < (l.length : Int)) = false := decide_eq_false (by omega)
  go_enter Try.func5, Try.ntmps5
  go_wp2_with fail
  refine (works_any _).mono ?_
  rintro e w1 ⟨rfl, hb⟩
  have H1 := Lib.hid hb; clear hb
  go_wp2_with fail
  refine (own_new (W := W) s (by omega) H1.out).mono ?_
  rintro e w2 ⟨rfl, ho, _⟩
  have hboth : Both W (w2.alloc (.cells #[.string s, .int .i64 0, .int .i64 0, .int .i64 0] 55)) w1.heap.size w2.heap.size s ⟨0, 0, 0⟩ :=
    ⟨ho.stay ((Below.refl _ _).alloc (Nat.le_refl _) _), ⟨ho.below.alloc ho.below.size _, ho.below.size, heap_alloc_new w2 _, Nat.zero_le _, by omega⟩, Nat.ne_of_lt ho.lt⟩
  have HB := Lib.hid hboth; clear ho hboth
  go_wp2_with fail
  go_loopw [28] (fun s28 wr => ∃ (k : Nat) (t : St), k ≤ l.length ∧ s28 = .int .i64 k ∧ Both W wr w1.heap.size w2.heap.size s t) (fun s28 _ => (l.length - intOf s28).toNat)
  case atStart => exact ⟨0, _, Nat.zero_le _, rfl, HB.out⟩
  case round =>
    obtain ⟨k, t, hk, rfl, hboth⟩ := hrel
    have HB := Lib.hid hboth; clear hboth
    by_cases hlt : k < l.length
    · obtain ⟨bl, o, rfl, hbl, hc⟩ : ∃ bl o, a = some ⟨bl, o, none⟩ ∧ bl < W.heap.size ∧ ∀ i (hi : i < l.length), W.cell? ⟨bl, o + i * 3, none⟩ = some (.int .i64 l[i].kind) ∧ W.cell? ⟨bl, o + i * 3 + 1, none⟩ = some (.int .i64 l[i].count) ∧ W.cell? ⟨bl, o + i * 3 + 2, none⟩ = some (.int .i64 l[i].most) := by
        rcases HC.out with h | h
        · simp [h] at hlt
        · exact h
      have hsm := HM.out l[k] (List.getElem_mem hlt)
      obtain ⟨e0, e1, e2⟩ := hc k hlt
      rw [← HB.out.r.below.cell hbl] at e0 e1 e2
      obtain ⟨m0, hm0⟩ : ∃ m, m = l[k].kind := ⟨_, rfl⟩
      obtain ⟨m1, hm1⟩ : ∃ m, m = l[k].count := ⟨_, rfl⟩
      obtain ⟨m2, hm2⟩ : ∃ m, m = l[k].most := ⟨_, rfl⟩
      rw [← hm0] at e0
      rw [← hm1] at e1 hsm
      rw [← hm2] at e2 hsm
      obtain ⟨hs1, hs2⟩ := hsm
      clear hm0 hm1 hm2 hc
      have hwb := (HB.out.stay ((Below.refl _ _).alloc (Nat.le_refl _) (.cells #[.int .i64 m0, .int .i64 m1, .int .i64 m2] 57))).stay (Below.refl _ _).drew
      have HD := Lib.hid hwb; clear hwb
      have hbox := box_cells (W := W) (.int .i64 m0) (.int .i64 m1) (.int .i64 m2) _ (rfl : _ = wr.alloc _) rfl
      obtain ⟨b0, b1, b2⟩ := hbox
      go_wp2_with fail
      refine wp_region_any (by kernel_rfl) ?_
      change wpAny _ _ _ _ _ _ _ (World.drew _)
      refine takeA (i := 0) (d := some 32) (v := ?_) rfl rfl (by kernel_rfl) (by kernel_rfl) (by kernel_rfl) (fun _ _ _ h => h) (Or.inl ⟨by rfl, ?_⟩) ?_
      rotate_left
      · intro w; go_simp; try with_reducible rfl
      simp only [Act.put, List.setIfInBounds_toArray, List.set_cons_zero, List.set_cons_succ]
      refine takeA (i := 1) (d := some 33) (v := ?_) rfl rfl (by kernel_rfl) (by kernel_rfl) (by kernel_rfl) (fun _ _ _ h => h) (Or.inl ⟨by rfl, ?_⟩) ?_
      rotate_left
      · intro w; go_simp; try with_reducible rfl
      simp only [Act.put, List.setIfInBounds_toArray, List.set_cons_zero, List.set_cons_succ]
      refine wpAny_ready (rs := [2]) (by kernel_rfl) (by simp) ?_
      refine AllReady.cons rfl (fun K hK => ?_) AllReady.nil
      go_simp
      refine hK _ _ ?_
      clear hK K
      refine wpAny_ready (rs := [3]) (by kernel_rfl) (by simp) ?_
      refine AllReady.cons rfl (fun K hK => ?_) AllReady.nil
      go_simp
      refine (alike_any W _ _ _ s t m0 m1 m2 HD.out hs2 hs1).mono ?_
      rintro e x1 ⟨rfl, hbo⟩
      obtain ⟨t', ht'⟩ : ∃ t', t' = stepF s m0 m1 m2 t := ⟨_, rfl⟩
      rw [← ht'] at hbo
      clear ht' b0 b1 b2 e0 e1 e2 HD
      have d2 := hbo.q.rd.c2
      have d3 := hbo.q.rd.c3
      have B1 := Lib.hid hbo; clear hbo
      go_wp2_with fail
      refine takeA (i := 4) (d := some 36) (v := ?_) rfl rfl (by kernel_rfl) (by kernel_rfl) (by kernel_rfl) (fun _ _ _ h => h) (Or.inl ⟨by rfl, ?_⟩) ?_
      rotate_left
      · intro w; go_simp; try with_reducible rfl
      simp only [Act.put, List.setIfInBounds_toArray, List.set_cons_zero, List.set_cons_succ]
      refine takeA (i := 5) (d := some 37) (v := ?_) rfl rfl (by kernel_rfl) (by kernel_rfl) (by kernel_rfl) (fun _ _ _ h => h) (Or.inl ⟨by rfl, ?_⟩) ?_
      rotate_left
      · intro w; go_simp; try with_reducible rfl
      simp only [Act.put, List.setIfInBounds_toArray, List.set_cons_zero, List.set_cons_succ]
      have hHeld : RefC w2.heap.size t'.err t'.bad x1 := ⟨d2, d3⟩
      clear d2 d3
      refine wpAny_of_held (S := RefC w2.heap.size t'.err t'.bad) _ _ _ _ ?_
      refine takeH (i := 6) (d := some 38) (v := ?_) rfl rfl (by kernel_rfl) (by kernel_rfl) (by kernel_rfl) (fun _ _ _ h => h) (Or.inl ⟨by rfl, ?_⟩) hHeld ?_
      rotate_left
      · rintro w hSw; obtain ⟨hS2, hS3⟩ := hSw; go_simp; try with_reducible rfl
      simp only [Act.put, List.setIfInBounds_toArray, List.set_cons_zero, List.set_cons_succ]
      refine takeH (i := 8) (d := some 40) (v := ?_) rfl rfl (by kernel_rfl) (by kernel_rfl) (by kernel_rfl) (fun _ _ _ h => h) (Or.inl ⟨by rfl, ?_⟩) hHeld ?_
      rotate_left
      · rintro w hSw; obtain ⟨hS2, hS3⟩ := hSw; go_simp; try with_reducible rfl
      simp only [Act.put, List.setIfInBounds_toArray, List.set_cons_zero, List.set_cons_succ]
      refine takeH (i := 9) (d := some 41) (v := ?_) rfl rfl (by kernel_rfl) (by kernel_rfl) (by kernel_rfl) (fun _ _ _ h => h) (Or.inl ⟨by rfl, ?_⟩) hHeld ?_
      rotate_left
      · rintro w hSw; obtain ⟨hS2, hS3⟩ := hSw; go_simp; try with_reducible rfl
      simp only [Act.put, List.setIfInBounds_toArray, List.set_cons_zero, List.set_cons_succ]
      refine takeH (i := 10) (d := some 42) (v := ?_) rfl rfl (by kernel_rfl) (by kernel_rfl) (by kernel_rfl) (fun _ _ _ h => h) (Or.inl ⟨by rfl, ?_⟩) hHeld ?_
      rotate_left
      · rintro w hSw; obtain ⟨hS2, hS3⟩ := hSw; go_simp; try with_reducible rfl
      simp only [Act.put, List.setIfInBounds_toArray, List.set_cons_zero, List.set_cons_succ]
      refine takeH (i := 11) (d := some 43) (v := ?_) rfl rfl (by kernel_rfl) (by kernel_rfl) (by kernel_rfl) (fun _ _ _ h => h) (Or.inl ⟨by rfl, ?_⟩) hHeld ?_
      rotate_left
      · rintro w hSw; obtain ⟨hS2, hS3⟩ := hSw; go_simp; try with_reducible rfl
      simp only [Act.put, List.setIfInBounds_toArray, List.set_cons_zero, List.set_cons_succ]
      refine takeH (i := 12) (d := some 44) (v := ?_) rfl rfl (by kernel_rfl) (by kernel_rfl) (by kernel_rfl) (fun _ _ _ h => h) (Or.inl ⟨by rfl, ?_⟩) hHeld ?_
      rotate_left
      · rintro w hSw; obtain ⟨hS2, hS3⟩ := hSw; go_simp; try with_reducible rfl
      simp only [Act.put, List.setIfInBounds_toArray, List.set_cons_zero, List.set_cons_succ]
      refine takeH (i := 13) (d := some 45) (v := ?_) rfl rfl (by kernel_rfl) (by kernel_rfl) (by kernel_rfl) (fun _ _ _ h => h) (Or.inl ⟨by rfl, ?_⟩) hHeld ?_
      rotate_left
      · rintro w hSw; obtain ⟨hS2, hS3⟩ := hSw; go_simp; try with_reducible rfl
      simp only [Act.put, List.setIfInBounds_toArray, List.set_cons_zero, List.set_cons_succ]
      refine takeH (i := 14) (d := some 46) (v := ?_) rfl rfl (by kernel_rfl) (by kernel_rfl) (by kernel_rfl) (fun _ _ _ h => h) (Or.inl ⟨by rfl, ?_⟩) hHeld ?_
      rotate_left
      · rintro w hSw; obtain ⟨hS2, hS3⟩ := hSw; go_simp; try with_reducible rfl
      simp only [Act.put, List.setIfInBounds_toArray, List.set_cons_zero, List.set_cons_succ]
      refine takeH (i := 15) (d := some 47) (v := ?_) rfl rfl (by kernel_rfl) (by kernel_rfl) (by kernel_rfl) (fun _ _ _ h => h) (Or.inl ⟨by rfl, ?_⟩) hHeld ?_
      rotate_left
      · rintro w hSw; obtain ⟨hS2, hS3⟩ := hSw; go_simp; try with_reducible rfl
      simp only [Act.put, List.setIfInBounds_toArray, List.set_cons_zero, List.set_cons_succ]
      refine takeH (i := 16) (d := some 48) (v := ?_) rfl rfl (by kernel_rfl) (by kernel_rfl) (by kernel_rfl) (fun _ _ _ h => h) (Or.inl ⟨by rfl, ?_⟩) hHeld ?_
      rotate_left
      · rintro w hSw; obtain ⟨hS2, hS3⟩ := hSw; go_simp; try with_reducible rfl
      simp only [Act.put, List.setIfInBounds_toArray, List.set_cons_zero, List.set_cons_succ]
      refine wpAnyH_ready (rs := [7]) (by kernel_rfl) (by simp) ?_
      refine AllReadyH.cons rfl (fun K hK => ?_) AllReadyH.nil
      go_simp
      refine (own_fault B1.out.r).mono ?_
      rintro e x2 ⟨rfl, _, hb⟩
      have B2 := Lib.hid (B1.out.stay hb); clear hb hHeld
      go_wp2_with fail
      refine hK.out _ _ (⟨B2.out.q.rd.c2, B2.out.q.rd.c3⟩) (fun hHeld => ?_)
      clear hK K
      refine takeH (i := 17) (d := some 49) (v := ?_) rfl rfl (by kernel_rfl) (by kernel_rfl) (by kernel_rfl) (fun _ _ _ h => h) (Or.inl ⟨by rfl, ?_⟩) hHeld ?_
      rotate_left
      · rintro w hSw; obtain ⟨hS2, hS3⟩ := hSw; go_simp; try with_reducible rfl
      simp only [Act.put, List.setIfInBounds_toArray, List.set_cons_zero, List.set_cons_succ]
      refine takeH (i := 18) (d := some 50) (v := ?_) rfl rfl (by kernel_rfl) (by kernel_rfl) (by kernel_rfl) (fun _ _ _ h => h) (Or.inl ⟨by rfl, ?_⟩) hHeld ?_
      rotate_left
      · rintro w hSw; obtain ⟨hS2, hS3⟩ := hSw; go_simp; try with_reducible rfl
      simp only [Act.put, List.setIfInBounds_toArray, List.set_cons_zero, List.set_cons_succ]
      refine takeH (i := 19) (d := some 51) (v := ?_) rfl rfl (by kernel_rfl) (by kernel_rfl) (by kernel_rfl) (fun _ _ _ h => h) (Or.inl ⟨by rfl, ?_⟩) hHeld ?_
      rotate_left
      · rintro w hSw; obtain ⟨hS2, hS3⟩ := hSw; go_simp; try with_reducible rfl
      simp only [Act.put, List.setIfInBounds_toArray, List.set_cons_zero, List.set_cons_succ]
      refine takeH (i := 20) (d := some 52) (v := ?_) rfl rfl (by kernel_rfl) (by kernel_rfl) (by kernel_rfl) (fun _ _ _ h => h) (Or.inl ⟨by rfl, ?_⟩) hHeld ?_
      rotate_left
      · rintro w hSw; obtain ⟨hS2, hS3⟩ := hSw; go_simp; try with_reducible rfl
      simp only [Act.put, List.setIfInBounds_toArray, List.set_cons_zero, List.set_cons_succ]
      refine takeH (i := 22) (d := some 54) (v := ?_) rfl rfl (by kernel_rfl) (by kernel_rfl) (by kernel_rfl) (fun _ _ _ h => h) (Or.inl ⟨by rfl, ?_⟩) hHeld ?_
      rotate_left
      · rintro w hSw; obtain ⟨hS2, hS3⟩ := hSw; go_simp; try with_reducible rfl
      simp only [Act.put, List.setIfInBounds_toArray, List.set_cons_zero, List.set_cons_succ]
      refine wpAnyH_ready (rs := [21]) (by kernel_rfl) (by simp) ?_
      refine AllReadyH.cons rfl (fun K hK => ?_) AllReadyH.nil
      go_simp
      refine (own_rest B2.out.r rfl).mono ?_
      rintro e x3 ⟨rfl, _, hb⟩
      have B3 := Lib.hid (B2.out.stay hb); clear hb hHeld
      go_wp2_with fail
      refine hK.out _ _ (⟨B3.out.q.rd.c2, B3.out.q.rd.c3⟩) (fun hHeld => ?_)
      clear hK K
      refine wpAnyH_ready (rs := [23]) (by kernel_rfl) (by simp) ?_
      refine AllReadyH.cons rfl (fun K hK => ?_) AllReadyH.nil
      go_simp
      refine (ownr_rest B3.out.q rfl).mono ?_
      rintro e x4 ⟨rfl, _, hb⟩
      have B4 := Lib.hid (B3.out.stay hb); clear hb hHeld
      go_wp2_with fail
      refine hK.out _ _ (⟨B4.out.q.rd.c2, B4.out.q.rd.c3⟩) (fun hHeld => ?_)
      clear hK K
      refine takeH (i := 24) (d := some 56) (v := ?_) rfl rfl (by kernel_rfl) (by kernel_rfl) (by kernel_rfl) (fun _ _ _ h => h) (Or.inl ⟨by rfl, ?_⟩) hHeld ?_
      rotate_left
      · rintro w hSw; obtain ⟨hS2, hS3⟩ := hSw; go_simp; try with_reducible rfl
      simp only [Act.put, List.setIfInBounds_toArray, List.set_cons_zero, List.set_cons_succ]
      refine takeH (i := 25) (d := some 57) (v := ?_) rfl rfl (by kernel_rfl) (by kernel_rfl) (by kernel_rfl) (fun _ _ _ h => h) (Or.inl ⟨by rfl, ?_⟩) hHeld ?_
      rotate_left
      · rintro w hSw; obtain ⟨hS2, hS3⟩ := hSw; go_simp; try with_reducible rfl
      simp only [Act.put, List.setIfInBounds_toArray, List.set_cons_zero, List.set_cons_succ]
      refine wpAnyH_done (by kernel_rfl) ?_ _
      clear hHeld
      go_wp2_with fail
      go_roundw
      case rel => exact ⟨k + 1, t', by omega, by go_num, B4.out⟩
      case measure => simp [intOf]; omega
    · obtain ⟨x, y, hxy⟩ : ∃ x y, endF s t = (x, y) := ⟨_, _, rfl⟩
      have HX := Lib.hid hxy; clear hxy
      go_wp2_with fail
      refine (ownr_end HB.out.q HX.out).mono ?_
      rintro e y1 ⟨rfl, _, hb⟩
      have B1 := Lib.hid (HB.out.stay hb); clear hb
      go_wp2_with fail
      refine (own_end B1.out.r HX.out).mono ?_
      rintro e y2 ⟨rfl, _, hb⟩
      have B2 := Lib.hid (B1.out.stay hb); clear hb
      go_wp2_with fail
      go_ret
      exact ⟨rfl, B2.out.r.below⟩

end Go.Proofs.Ytdcofbkmflemfaa
