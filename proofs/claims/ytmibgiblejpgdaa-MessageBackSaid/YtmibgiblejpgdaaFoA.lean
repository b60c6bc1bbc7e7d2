/- A message that may be; its numbers, as the document lists them. -/
import Derived.Test.YtmibgiblejpgdaaCk
namespace Go.Proofs.Ytmibgiblejpgdaa
open Go.RowKit Abs
structure Fine (m : Ms) (es : List (Int × Bytes)) : Prop where
  head : headOk m
  few : es.length ≤ 4
  short : m.data.length ≤ 3500
  each : ∀ e ∈ es, 0 ≤ e.1 ∧ e.1 ≤ 1125899906842624 ∧ e.2.length ≤ 3500
theorem sum_fine : ∀ (es : List (Int × Bytes)) (a : Int), 0 ≤ a → sumCheck a es = 0 → ∀ e ∈ es, 0 ≤ e.1 ∧ e.1 ≤ 1125899906842624 ∧ e.2.length ≤ 3500
  | [], _, _, _, _, he => by simp at he
  | e :: es, a, ha, h, x, hx => by
    rw [sumCheck] at h
    split at h
    · cases h
    · rename_i h1
      split at h
      · cases h
      · rename_i h2
        rcases List.mem_cons.1 hx with rfl | hx
        · omega
        · exact sum_fine es _ (by omega) h x hx
theorem fine_of {m : Ms} {es : List (Int × Bytes)} (h : chkM m es = 0) : Fine m es := by
  unfold chkM at h
  split at h
  · rename_i h1
    split at h
    · cases h
    · rename_i h2
      exact ⟨h1, by omega, by omega, sum_fine es _ (by omega) h⟩
  · cases h
def numsC (m : Ms) : List AV := [.int .i64 (m.nums 0), .int .i64 (m.nums 1), .int .i64 (m.nums 2), .int .i64 (m.nums 3), .int .i64 (m.nums 4), .int .i64 (m.nums 5), .int .i64 (m.nums 6), .int .i64 (m.nums 7), .int .i64 (m.nums 8), .int .i64 (m.nums 9), .int .i64 (m.nums 10), .int .i64 (m.nums 11), .int .i64 (m.nums 12), .int .i64 (m.nums 13), .int .i64 (m.nums 14)]
theorem numsC_at (m : Ms) : ∀ i : Fin 15, (numsC m)[i.val]? = some (.int .i64 (m.nums i))
  | ⟨0, _⟩ => rfl
  | ⟨1, _⟩ => rfl
  | ⟨2, _⟩ => rfl
  | ⟨3, _⟩ => rfl
  | ⟨4, _⟩ => rfl
  | ⟨5, _⟩ => rfl
  | ⟨6, _⟩ => rfl
  | ⟨7, _⟩ => rfl
  | ⟨8, _⟩ => rfl
  | ⟨9, _⟩ => rfl
  | ⟨10, _⟩ => rfl
  | ⟨11, _⟩ => rfl
  | ⟨12, _⟩ => rfl
  | ⟨13, _⟩ => rfl
  | ⟨14, _⟩ => rfl
theorem out_news {h : AHeap} {e : TypeId} {l : List AV} {n sz : Nat} (h1 : l.all AV.one = true) (hex : memB e h.ex = false) : outNewS h e l n sz = some (.val (.sl h.next 0 n sz), newH h e l) := by
  unfold outNewS
  rw [if_pos ⟨h1, hex⟩]
  rfl
theorem bldSl79 (h : AHeap) (a0 a1 a2 a3 a4 a5 a6 a7 a8 a9 a10 a11 a12 a13 a14 : Int) : bldSl Try.prog h 79 15 [(0, .int .i64 a0), (1, .int .i64 a1), (2, .int .i64 a2), (3, .int .i64 a3), (4, .int .i64 a4), (5, .int .i64 a5), (6, .int .i64 a6), (7, .int .i64 a7), (8, .int .i64 a8), (9, .int .i64 a9), (10, .int .i64 a10), (11, .int .i64 a11), (12, .int .i64 a12), (13, .int .i64 a13), (14, .int .i64 a14)] = outNewS h 3 [.int .i64 a0, .int .i64 a1, .int .i64 a2, .int .i64 a3, .int .i64 a4, .int .i64 a5, .int .i64 a6, .int .i64 a7, .int .i64 a8, .int .i64 a9, .int .i64 a10, .int .i64 a11, .int .i64 a12, .int .i64 a13, .int .i64 a14] 15 1 := by kernel_rfl
section
variable {n d : Nat} {h : AHeap} {m : Ms}
theorem refNumbers_w (hone : m.cells.all AV.one = true) (hx3 : memB 3 h.ex = false) : ∃ c h', world n (d + 1) 34 [.agg m.cells] h = some (.ret (.sl c 0 15 1), h') ∧ RowH h' c 3 (numsC m) ∧ c < h'.next ∧ h.next ≤ c ∧ Tch [] h h' := by
  suffices hK : Wp (world n (d + 1) 34 [.agg m.cells] h) fun r h' => ∃ c, r = .ret (.sl c 0 15 1) ∧ RowH h' c 3 (numsC m) ∧ c < h'.next ∧ h.next ≤ c ∧ Tch [] h h' by
    obtain ⟨_, h', e, c, rfl, q⟩ := hK
    exact ⟨c, h', e, q⟩
  rw [w_ref17_Numbers]
  refine Wp.gcn ?_
  unfold ref17_Numbers
  refine Wp.outK (box_agg hone) ?_
  have k0 := RowH.new h 30 m.cells
  have t0 : Tch [] h (newH h 30 m.cells) := Tch.newH _ _ _ _
  have n0 := next_newH h 30 m.cells
  rw [newP_eq]
  generalize newH h 30 m.cells = h1 at *
  repeat (((with_reducible apply Wp.obind); first | (with_reducible first | exact avInt_int _ _ | exact fldP_ptr _ _ _) | ((with_reducible apply RowH.cell'); (with_reducible assumption); rfl)))
  refine Wp.outK ((bldSl79 _ _ _ _ _ _ _ _ _ _ _ _ _ _ _ _).trans (out_news rfl (by rw [t0.2.1]; exact hx3))) ?_
  refine Wp.ret ⟨?_, h1.next, rfl, RowH.new _ _ _, Nat.lt_succ_self _, by omega, t0.trans (Tch.newH _ _ _ _)⟩
  show Nat.blt h1.next h.next = false
  cases hb : Nat.blt h1.next h.next with
  | false => rfl
  | true => exact absurd (Nat.le_of_ble_eq_true hb) (by omega)
end
end Go.Proofs.Ytmibgiblejpgdaa
