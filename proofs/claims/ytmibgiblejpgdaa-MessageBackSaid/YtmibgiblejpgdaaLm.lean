/- A message that came in; whether it is heavy. -/
import Derived.Test.YtmibgiblejpgdaaCk
namespace Go.Proofs.Ytmibgiblejpgdaa
open Go.RowKit Abs
theorem slc_one' {N sz : Nat} {h : AHeap} {x : AV} {ls : List (List AV)} (hs : Slc N h sz x ls) : x.one = true := by
  rcases hs.2 with ⟨_, rfl | rfl⟩ | ⟨b, _, _, rfl, _⟩ <;> rfl
set_option maxRecDepth 100000 in
theorem bytes42a : Nat.ble 1 (Try.prog.bytesOf 42) = true := by kernel_rfl
theorem u8_bounds {z : Int} (hz : (Lit.int .u8 z).wf = true) : 0 ≤ z ∧ z < 256 := wf_u8 hz
set_option maxRecDepth 100000 in
theorem msg_of {N : Nat} {h : AHeap} {x : AV} (hp : ArgP Try.prog N h 12 30 x) : ∃ (m : Ms) (es : List (Int × Bytes)), x = .agg m.cells ∧ Slc N h 2 m.ents (es.map entC) ∧ lensOk m es ∧ m.cells.all AV.one = true ∧ 0 ≤ m.op ∧ m.op < 256 := by
  obtain ⟨l, rfl, hpl⟩ := hp.agg (by kernel_rfl)
  obtain ⟨ls, rfl, h1, h2⟩ := hpl.structEach Try.underlying30
  have h1 : ls.length = 21 := h1
  match ls, h1 with
  | [a0, a1, a2, a3, a4, a5, a6, a7, a8, a9, a10, a11, a12, a13, a14, a15, a16, a17, a18, a19, a20], _ =>
    obtain ⟨z0, rfl, _⟩ := (h2 0 _ a0 rfl rfl).int Try.underlying5
    obtain ⟨z1, rfl, _⟩ := (h2 1 _ a1 rfl rfl).int Try.underlying3
    obtain ⟨z2, rfl, _⟩ := (h2 2 _ a2 rfl rfl).int Try.underlying3
    obtain ⟨z3, rfl, _⟩ := (h2 3 _ a3 rfl rfl).int Try.underlying3
    obtain ⟨z4, rfl, _⟩ := (h2 4 _ a4 rfl rfl).int Try.underlying3
    obtain ⟨z5, rfl, _⟩ := (h2 5 _ a5 rfl rfl).int Try.underlying3
    obtain ⟨z6, rfl, _⟩ := (h2 6 _ a6 rfl rfl).int Try.underlying3
    obtain ⟨z7, rfl, _⟩ := (h2 7 _ a7 rfl rfl).int Try.underlying3
    obtain ⟨z8, rfl⟩ := (h2 8 _ a8 rfl rfl).bool Try.underlying4
    obtain ⟨z9, q9, rfl, s9, b9, p9⟩ := (h2 9 _ a9 rfl rfl).slice Try.underlying26
    obtain ⟨z10, rfl, _⟩ := (h2 10 _ a10 rfl rfl).int Try.underlying3
    obtain ⟨z11, rfl, _⟩ := (h2 11 _ a11 rfl rfl).int Try.underlying3
    obtain ⟨z12, rfl, l12⟩ := (h2 12 _ a12 rfl rfl).str Try.underlying9
    obtain ⟨z13, rfl, _⟩ := (h2 13 _ a13 rfl rfl).int Try.underlying3
    obtain ⟨y1, y2, rfl, p1, p2⟩ := (h2 14 _ a14 rfl rfl).struct2 Try.underlying28
    obtain ⟨z14, rfl, _⟩ := p1.int Try.underlying3
    obtain ⟨w14, rfl, _⟩ := p2.int Try.underlying3
    obtain ⟨z15, rfl, _⟩ := (h2 15 _ a15 rfl rfl).int Try.underlying3
    obtain ⟨z16, rfl, _⟩ := (h2 16 _ a16 rfl rfl).int Try.underlying3
    obtain ⟨z17, rfl, _⟩ := (h2 17 _ a17 rfl rfl).int Try.underlying3
    obtain ⟨z18, rfl, o18⟩ := (h2 18 _ a18 rfl rfl).int Try.underlying5
    obtain ⟨z19, rfl, _⟩ := (h2 19 _ a19 rfl rfl).int Try.underlying23
    obtain ⟨z20, rfl, _⟩ := (h2 20 _ a20 rfl rfl).int Try.underlying3
    rw [cells42] at s9
    obtain ⟨es, rfl, hes⟩ := map_of (f := entC) (Q := fun e => e.2.length ≤ reachBytes) q9 fun l hl => by
      obtain ⟨l0, l1, rfl, p1, p2⟩ := (p9 l hl).struct2 Try.underlying42
      obtain ⟨a, rfl, _⟩ := p1.int Try.underlying3
      obtain ⟨s, rfl, hs⟩ := p2.str Try.underlying9
      exact ⟨(a, s), rfl, hs⟩
    have hone := slc_one' s9
    have hr : reachBytes = 140737488351232 := rfl
    have h1 := Nat.le_of_ble_eq_true bytes42a
    rw [List.length_map] at b9
    have hmany : es.length ≤ 140737488351232 := by
      generalize Try.prog.bytesOf 42 = B at b9 h1
      have h2 : es.length ≤ es.length * B := Nat.le_mul_of_pos_right _ h1
      omega
    refine ⟨⟨z0, fun i => [z1, z2, z3, z4, z5, z6, z7, z10, z11, z13, z14, w14, z15, z16, z17][i.val]'(by have := i.isLt; simp), z8, z9, z12, z18, z19, z20⟩, es, rfl, s9, ⟨by rw [hr] at l12; exact l12, fun e he => by have := hes e he; omega, hmany⟩, ?_, (wf_u8 o18).1, (wf_u8 o18).2⟩
    simp only [Ms.cells, List.all_cons, List.all_nil, hone]
    rfl
section
variable {n d N : Nat} {h : AHeap} {m : Ms} {es : List (Int × Bytes)} {Q : ARes → AHeap → Prop}
theorem heavy_loop {x : AV} {h0 : AHeap} (hN : N ≤ h0.next) (hmany : es.length ≤ 140737488351232) {k14 : AHeap → R} (hk : ∀ h, Tch [] h0 h → Wp (k14 h) Q) (hQ : ∀ h, Tch [] h0 h → Q (.ret (.bool true)) h) :
    ∀ (f i : Nat) (a : Int) (h : AHeap), es.length < f + i → i ≤ es.length → EntsAt N h x es → Tch [] h0 h → Wp (law17_heavy_L0 x (es.length : Int) k14 f a (i : Int) h) Q
  | 0, i, a, h, h1, h2, _, _ => by omega
  | f + 1, i, a, h, h1, h2, hs, ht => by
    rw [law17_heavy_L0_s]
    unfold law17_heavy_L0b
    by_cases hi : i < es.length
    · obtain ⟨br, hb, e1, e2, _, _⟩ := ents_row hs hi
      have hN2 := ht.1
      repeat (first | (with_reducible refine Wp.lett ?_) | ((with_reducible apply Wp.obind); (with_reducible assumption)) | ((with_reducible refine Wp.ift ?_ ?_); ((with_reducible apply decide_eq_true); omega)) | rw [newP_eq])
      refine Wp.stAll (RowH.new h 42 [.int .i64 0, .str 0 0]) rfl rfl rfl (fun h1 r1 t1 n1 => ?_)
      have t2 : Tch [] h h1 := (Tch.newH [] h 42 [.int .i64 0, .str 0 0]).trans' t1 (by intro b hb; simp at hb; subst hb; exact .inr (Nat.le_refl _))
      have hs1 := hs.tch t2 (by omega) (by simp)
      refine Wp.obind (r1.cell' rfl) ?_
      repeat (first | (with_reducible refine Wp.lett ?_) | ((with_reducible apply Wp.obind); (with_reducible exact avStr_str _)))
      refine Wp.ifc (fun _ => Wp.ret (hQ _ (ht.trans t2))) (fun _ => ?_)
      refine Wp.obind (r1.cell' rfl) ?_
      repeat (first | (with_reducible refine Wp.lett ?_) | ((with_reducible apply Wp.obind); (with_reducible exact avStr_str _)))
      refine Wp.ifc (fun _ => Wp.ret (hQ _ (ht.trans t2))) (fun _ => ?_)
      repeat (((with_reducible refine Wp.lettw ?_ ?_ ?_); omega; omega))
      rw [show (i : Int) + 1 = ((i + 1 : Nat) : Int) by omega]
      exact heavy_loop hN hmany hk hQ f (i + 1) _ h1 (by omega) (by omega) hs1 (ht.trans t2)
    · repeat (first | (with_reducible refine Wp.lett ?_) | ((with_reducible refine Wp.iff ?_ ?_); ((with_reducible apply decide_eq_false); omega)))
      exact hk h ht
theorem heavy_w (hn : es.length < n) (hs : EntsAt N h m.ents es) (hN : N ≤ h.next) (hmany : es.length ≤ 140737488351232) (hone : m.cells.all AV.one = true) : ∃ g, world n (d + 1) 14 [.agg m.cells] h = some (.ret (.bool g), h) ∧ (g = false → es.length ≤ 1024) := by
  suffices hK : Wp (world n (d + 1) 14 [.agg m.cells] h) fun r h' => (∃ g, r = .ret (.bool g) ∧ (g = false → es.length ≤ 1024)) ∧ h' = h by
    obtain ⟨_, _, e, ⟨g, rfl, hg⟩, rfl⟩ := hK
    exact ⟨g, e, hg⟩
  rw [w_law17_heavy]
  refine Wp.gc ?_
  suffices hK : Wp (law17_heavy (world n d) n m.cells h) fun r h' => (∃ g, r = .ret (.bool g) ∧ (g = false → es.length ≤ 1024)) ∧ Tch [] h h' from hK.mono fun r h' ⟨⟨g, e, hg⟩, t⟩ => ⟨t.above, by rw [e]; rfl, ⟨g, e, hg⟩, rfl⟩
  unfold law17_heavy
  refine Wp.outK (box_agg hone) ?_
  have k0 := RowH.new h 30 m.cells
  have t0 : Tch [] h (newH h 30 m.cells) := Tch.newH _ _ _ _
  have n0 := next_newH h 30 m.cells
  rw [newP_eq]
  generalize newH h 30 m.cells = h1 at *
  have hs1 := hs.tch t0 hN (by simp)
  repeat (first | (with_reducible refine Wp.join0 (fun _ _ => ?_)) | ((with_reducible apply Wp.obind); first | (with_reducible first | exact ents_len hs1 | exact avStr_str _ | exact fldP_ptr _ _ _) | ((with_reducible apply RowH.cell'); (with_reducible assumption); rfl)))
  rename_i k14 hk14
  refine heavy_loop (h0 := h1) (N := N) (by omega) hmany (fun h2 t2 => ?_) (fun h2 t2 => ⟨⟨true, rfl, by simp⟩, t0.trans t2⟩) n 0 _ h1 (by omega) (by omega) hs1 (Tch.refl _ _)
  have k2 := k0.tch t2 (by omega) (by simp)
  have tt := t0.trans t2
  have hs2 := hs1.tch t2 (by omega) (by simp)
  repeat (first | (with_reducible refine Wp.join1 (fun _ _ => ?_)) | (with_reducible refine Wp.lett ?_) | ((with_reducible apply Wp.obind); first | (with_reducible first | exact avStr_str _ | exact fldP_ptr _ _ _) | ((with_reducible apply RowH.cell'); (with_reducible assumption); rfl)) | (with_reducible refine Wp.go0 (by assumption) ?_))
  refine Wp.ifc (fun _ => ?_) (fun _ => ?_)
  · repeat ((with_reducible refine Wp.go1 (by assumption) ?_))
    exact Wp.ret ⟨⟨true, rfl, by simp⟩, tt⟩
  · repeat (first | (with_reducible refine Wp.lett ?_) | ((with_reducible apply Wp.obind); first | (with_reducible first | exact ents_len hs2 | exact fldP_ptr _ _ _) | ((with_reducible apply RowH.cell'); (with_reducible assumption); rfl)) | (with_reducible refine Wp.go1 (by assumption) ?_))
    exact Wp.ret ⟨⟨_, rfl, fun hg => by rw [decide_eq_false_iff_not] at hg; omega⟩, tt⟩
end
end Go.Proofs.Ytmibgiblejpgdaa
