/- ClockPlays: a clock shows just the ticks that went by. -/
import Derived.Test.YtbcdmobgefdeaaaClockPlay
import Derived.Test.YtbcdmobgefdeaaaOpenRows
import Derived.Deep.DeepCutAuto
import Derived.Deep.RegionHeld3
namespace Go.Proofs.Ytbcdmobgefdeaaa
open Go.RowKit

/-- The reference's clock's block. -/
def RefIs (w : World) (b : Nat) (r g : Int) : Prop := w.heap[b]? = some (.cells #[.int .i64 g, .int .i64 r] 30)

/-- The cells of row k. -/
theorem rows2_cells {w w' : World} {a : Option Addr} {n cap : Nat} {l : List (Int × Int)} (h : Rows2 w (.slice a n cap) l) (hb : Below w.heap.size w w') (k : Nat) (hk : k < l.length) :
    ∃ b off, a = some ⟨b, off, none⟩ ∧ b < w.heap.size ∧ w'.cell? ⟨b, off + k * 2, none⟩ = some (.int .i64 l[k].1) ∧ w'.cell? ⟨b, off + k * 2 + 1, none⟩ = some (.int .i64 l[k].2) := by
  obtain ⟨a', cap', hv, _, h1, _⟩ := h
  simp only [Value.slice.injEq] at hv
  obtain ⟨rfl, rfl, rfl⟩ := hv
  rcases h1 with rfl | ⟨b, off, rfl, hbl, hc⟩
  · simp at hk
  · refine ⟨b, off, rfl, hbl, ?_, ?_⟩
    · rw [hb.cell hbl]; exact (hc k hk).1
    · rw [hb.cell hbl]; exact (hc k hk).2

theorem plays_new {w v1 v2 : World} {D b : Nat} {r g r' g' er : Int} (K : RefIs v1 D r g ∧ ClockIs v1 b r' g' ∧ Below w.heap.size w v1 ∧ Sane r' g' ∧ b ≠ D) (ht : Touch (fun _ => False) v1.drew v2) :
    ∃ G : Nat, Value.pointer (some ⟨v2.heap.size, 0, none⟩) = .pointer (some ⟨G, 0, none⟩) ∧ Value.int .i64 er = .int .i64 er ∧ w.heap.size ≤ G ∧ G ≠ D ∧
      (RefIs (v2.alloc (.cells #[.int .i64 g', .int .i64 r'] 30)) G r' g' ∧ RefIs (v2.alloc (.cells #[.int .i64 g', .int .i64 r'] 30)) D r g ∧
        ClockIs (v2.alloc (.cells #[.int .i64 g', .int .i64 r'] 30)) b r' g' ∧ Below w.heap.size w (v2.alloc (.cells #[.int .i64 g', .int .i64 r'] 30))) := by
  obtain ⟨k1, k2, k3, _, _⟩ := K
  have t1 : Touch (fun _ => False) v1 (v2.alloc (.cells #[.int .i64 g', .int .i64 r'] 30)) := (((Touch.refl _ v1).drew).trans ht).alloc _
  have hz : v1.heap.size ≤ v2.heap.size := ht.size
  have hD := block_lt k1
  exact ⟨v2.heap.size, rfl, rfl, Nat.le_trans k3.size hz, by omega, new_of _ _, t1.stays k1 (fun h => h), k2.touch t1 (fun h => h), below_touch k3 t1 (Nat.le_refl _) (fun _ h => h.elim)⟩

theorem plays_old {w v1 v2 : World} {D b : Nat} {r g r' g' er : Int} (K : RefIs v1 D r g ∧ ClockIs v1 b r' g' ∧ Below w.heap.size w v1 ∧ Sane r' g' ∧ b ≠ D) (ht : Touch (fun _ => False) (v1.alloc (.cells #[.int .i64 0, .int .i64 0] 30)).drew v2) :
    ∃ G : Nat, Value.pointer (some ⟨v1.heap.size, 0, none⟩) = .pointer (some ⟨G, 0, none⟩) ∧ Value.int .i64 er = .int .i64 er ∧ w.heap.size ≤ G ∧ G ≠ D ∧
      (RefIs ((v2.setCell ⟨v1.heap.size, 0, none⟩ (.int .i64 g')).setCell ⟨v1.heap.size, 1, none⟩ (.int .i64 r')) G r' g' ∧ RefIs ((v2.setCell ⟨v1.heap.size, 0, none⟩ (.int .i64 g')).setCell ⟨v1.heap.size, 1, none⟩ (.int .i64 r')) D r g ∧
        ClockIs ((v2.setCell ⟨v1.heap.size, 0, none⟩ (.int .i64 g')).setCell ⟨v1.heap.size, 1, none⟩ (.int .i64 r')) b r' g' ∧ Below w.heap.size w ((v2.setCell ⟨v1.heap.size, 0, none⟩ (.int .i64 g')).setCell ⟨v1.heap.size, 1, none⟩ (.int .i64 r'))) := by
  obtain ⟨k1, k2, k3, _, _⟩ := K
  have t0 : Touch (fun _ => False) v1 v2 := (((Touch.refl _ v1).alloc _).drew).andThen ht (fun _ _ h => h)
  have t1 : Touch (fun i => i = v1.heap.size) v1 ((v2.setCell ⟨v1.heap.size, 0, none⟩ (.int .i64 g')).setCell ⟨v1.heap.size, 1, none⟩ (.int .i64 r')) := Touch.setCell (S := fun i => i = v1.heap.size) (Touch.setCell (S := fun i => i = v1.heap.size) (t0.mono (fun _ _ h => h.elim)) (fun _ => rfl) _) (fun _ => rfl) _
  have hn : v2.heap[v1.heap.size]? = some (.cells #[.int .i64 0, .int .i64 0] 30) := ht.stays (new_of v1 _) (fun h => h)
  have hD := block_lt k1
  have hb := block_lt k2
  refine ⟨v1.heap.size, rfl, rfl, k3.size, by omega, ?_, t1.stays k1 (by omega), k2.touch t1 (by omega), below_touch k3 t1 (Nat.le_refl _) (fun i h => by rw [h]; exact k3.size)⟩
  exact set_of (set_of hn 0 _) 1 _

theorem third {p q r : Prop} (h : p ∧ q ∧ r) : r := h.2.2

theorem plays_put {w wc : World} {D b : Nat} {r g r' g' : Int} (hD : w.heap.size ≤ D) (hne : b ≠ D) (h1 : RefIs wc D r g) (h2 : ClockIs wc b r' g') (h3 : Below w.heap.size w wc) :
    RefIs ((wc.setCell ⟨D, 0, none⟩ (.int .i64 g')).setCell ⟨D, 1, none⟩ (.int .i64 r')).drew D r' g' ∧ ClockIs ((wc.setCell ⟨D, 0, none⟩ (.int .i64 g')).setCell ⟨D, 1, none⟩ (.int .i64 r')).drew b r' g' ∧
      Below w.heap.size w ((wc.setCell ⟨D, 0, none⟩ (.int .i64 g')).setCell ⟨D, 1, none⟩ (.int .i64 r')).drew := by
  have t1 : Touch (fun i => i = D) wc ((wc.setCell ⟨D, 0, none⟩ (.int .i64 g')).setCell ⟨D, 1, none⟩ (.int .i64 r')).drew := (Touch.setCell (S := fun i => i = D) (Touch.setCell (S := fun i => i = D) (Touch.refl _ _) (fun _ => rfl) _) (fun _ => rfl) _).drew
  exact ⟨set_of (set_of h1 0 _) 1 _, h2.touch t1 hne, below_touch h3 t1 (Nat.le_refl _) (fun i h => by rw [h]; exact hD)⟩

set_option maxHeartbeats 2000000 in
set_option maxRecDepth 100000 in
theorem clockPlays_any (z : Int) (v : Value) (l : List (Int × Int)) (w : World) (h : Rows2 w v l) :
    Calls Try.prog 3 #[.int .i64 z, v] w fun e w' => e = .returned (.bool true) ∧ Below w.heap.size w w' := by
  have h' := h
  obtain ⟨a, cap, rfl, hlen, _, _⟩ := h'
  unfold maxLen at hlen
  have HR := Lib.hid h; clear h
  by_cases hz : 500 ≤ z ∧ z ≤ 2000
  · obtain ⟨z0, z1⟩ := hz
    go_enter Try.func3, Try.ntmps3
    go_wp2_with fail
    refine (works_any _).mono ?_
    rintro e w1 ⟨rfl, hb⟩
    have H1 : Hid (Below w.heap.size w w1) := Lib.hid hb; clear hb
    go_wp2_with fail
    refine (new_ok z z0 z1 _).mono ?_
    rintro e w2 ⟨rfl, hc, ht⟩
    have H2 : Hid (Below w.heap.size w w2) := Lib.hid (below_touch H1.out ht (Nat.le_refl _) (fun _ h => h.elim)); clear ht
    have hB := H1.out.size
    obtain ⟨b0, hb0⟩ : ∃ b, b = w1.heap.size := ⟨_, rfl⟩
    rw [← hb0] at hc hB ⊢
    have C2 := Lib.hid hc; clear hc hb0
    go_wp2_with fail
    refine (refRates_yes z z0 z1 _).mono ?_
    rintro e w3 ⟨rfl, rfl⟩
    by_cases hbig : 5000 < l.length
    · go_wp2_with fail
      go_ret
      exact ⟨rfl, H2.out⟩
    · go_wp2_with fail
      have hD2 : RefIs (w3.alloc (.cells #[.int .i64 0, .int .i64 z] 30)) w3.heap.size z 0 := new_of _ _
      have hC4 : ClockIs (w3.alloc (.cells #[.int .i64 0, .int .i64 z] 30)) b0 z 0 := C2.out.touch ((Touch.refl (fun _ => False) _).alloc _) (fun h => h)
      have hB4 : Below w.heap.size w (w3.alloc (.cells #[.int .i64 0, .int .i64 z] 30)) := H2.out.alloc H2.out.size _
      have hne : b0 < w3.heap.size := block_lt C2.out
      generalize (w3.alloc (.cells #[.int .i64 0, .int .i64 z] 30)) = w4 at hD2 hC4 hB4 ⊢
      have hDB : w.heap.size ≤ w3.heap.size := H2.out.size
      generalize w3.heap.size = D at hD2 hne hDB ⊢
      have hsa : Sane z 0 := ⟨z0, z1, by omega, by omega⟩
      have K4 : Hid (RefIs w4 D z 0 ∧ ClockIs w4 b0 z 0 ∧ Below w.heap.size w w4 ∧ Sane z 0 ∧ b0 ≠ D) := Lib.hid ⟨hD2, hC4, hB4, hsa, by omega⟩
      clear hD2 hC4 hB4 hsa hne
      go_loopw [5, 8] (fun s5 s8 wr => ∃ (k b : Nat) (r g : Int), k ≤ l.length ∧ s8 = .int .i64 k ∧ s5 = .pointer (some ⟨b, 0, none⟩) ∧ w.heap.size ≤ b ∧ (RefIs wr D r g ∧ ClockIs wr b r g ∧ Below w.heap.size w wr ∧ Sane r g ∧ b ≠ D)) (fun _ s8 _ => (l.length - intOf s8).toNat)
      case atStart => exact ⟨0, b0, z, 0, by omega, rfl, rfl, hB, K4.out⟩
      case round =>
        clear K4 C2 H2 H1
        obtain ⟨k, b, r, g, hk, rfl, rfl, hbB, hK⟩ := hrel
        have K := Lib.hid hK; clear hK
        by_cases hlt : k < l.length
        · obtain ⟨q, off, rfl, hq, c0, c1⟩ := rows2_cells HR.out K.out.2.2.1 k hlt
          obtain ⟨x, hx⟩ : ∃ x, x = l[k].1 := ⟨_, rfl⟩
          obtain ⟨y, hy⟩ : ∃ y, y = l[k].2 := ⟨_, rfl⟩
          rw [← hx] at c0
          rw [← hy] at c1
          clear hx hy
          go_wp2_with fail
          refine (play_any b r g x y _ K.out.2.1 K.out.2.2.2.1).mono ?_
          rintro e v1 ⟨b', he, hc, ht, hor⟩
          subst he
          have hsa := step_sane K.out.2.2.2.1 x y
          obtain ⟨⟨r', g', er⟩, hst⟩ : ∃ s, s = step r g x y := ⟨_, rfl⟩
          have hmo := fun w => model_any r g x y K.out.2.2.2.1 w
          rw [← hst] at hc hsa ⊢
          simp only [← hst] at hmo
          have hd : RefIs v1 D r g := ht.stays K.out.1 (fun h => K.out.2.2.2.2 h.symm)
          have hb1 : Below w.heap.size w v1 := below_touch K.out.2.2.1 ht (Nat.le_refl _) (fun i h => by subst h; exact hbB)
          have hDl : D < wr.heap.size := block_lt K.out.1
          have hbB' : w.heap.size ≤ b' ∧ b' ≠ D := by
            rcases hor with rfl | h
            · exact ⟨hbB, K.out.2.2.2.2⟩
            · have := K.out.2.2.1.size
              omega
          have c0' : v1.cell? ⟨q, off + k * 2, none⟩ = some (.int .i64 x) := by rw [hb1.cell hq, ← K.out.2.2.1.cell hq]; exact c0
          have c1' : v1.cell? ⟨q, off + k * 2 + 1, none⟩ = some (.int .i64 y) := by rw [hb1.cell hq, ← K.out.2.2.1.cell hq]; exact c1
          have d0 : v1.cell? ⟨D, 0, none⟩ = some (.int .i64 g) := cell_of hd 0
          have d1 : v1.cell? ⟨D, 1, none⟩ = some (.int .i64 r) := cell_of hd 1
          have hq1 : q < v1.heap.size := Nat.lt_of_lt_of_le hq hb1.size
          have hD1 : D < v1.heap.size := block_lt hd
          have HM := Lib.hid hmo; clear hmo
          have K1 : Hid (RefIs v1 D r g ∧ ClockIs v1 b' r' g' ∧ Below w.heap.size w v1 ∧ Sane r' g' ∧ b' ≠ D) := Lib.hid ⟨hd, hc, hb1, hsa, hbB'.2⟩
          obtain ⟨hbB2, hbD⟩ := hbB'
          have HBD := Lib.hid hbD
          clear hst hc hsa hd hb1 hor ht c0 c1 hbD K
          go_wp2_with fail
          go_cut [11, 12] (fun s11 s12 wx => ∃ G : Nat, s11 = .pointer (some ⟨G, 0, none⟩) ∧ s12 = .int .i64 er ∧ w.heap.size ≤ G ∧ G ≠ D ∧ (RefIs wx G r' g' ∧ RefIs wx D r g ∧ ClockIs wx b' r' g' ∧ Below w.heap.size w wx))
          case first =>
            go_region_with (go_at_call 13; refine (HM.out _).mono ?_; rintro e v2 ⟨rfl, ht2⟩; obtain ⟨hcl, hfr⟩ := touch_cells ht2; have hz2 := ht2.size; have T2 := Lib.hid ht2; clear ht2)
            all_goals
              go_wp2_with fail
              go_meet
              first | exact plays_new K1.out T2.out | exact plays_old K1.out T2.out
          case rest =>
            obtain ⟨G, rfl, rfl, hG, hGD, hcut⟩ := hcut
            have g0 : wc.cell? ⟨G, 0, none⟩ = some (.int .i64 g') := cell_of hcut.1 0
            have g1 : wc.cell? ⟨G, 1, none⟩ = some (.int .i64 r') := cell_of hcut.1 1
            have f0 := thaw_of hcut.2.1 0
            have f1 := thaw_of hcut.2.1 1
            have e0 : wc.cell? ⟨D, 0, none⟩ = some (.int .i64 g) := cell_of hcut.2.1 0
            have e1 : wc.cell? ⟨D, 1, none⟩ = some (.int .i64 r) := cell_of hcut.2.1 1
            have KC := Lib.hid hcut; clear hcut d0 d1 c0' c1' hq1 hD1
            go_wp2_with fail
            go_region
            go_wp2_with fail
            obtain ⟨p1, p2, p3⟩ := plays_put hDB HBD.out KC.out.2.1 KC.out.2.2.1 KC.out.2.2.2
            generalize ((wc.setCell ⟨D, 0, none⟩ (.int .i64 g')).setCell ⟨D, 1, none⟩ (.int .i64 r')).drew = wn at p1 p2 p3 ⊢
            have n0 : wn.cell? ⟨D, 0, none⟩ = some (.int .i64 g') := cell_of p1 0
            have n1 : wn.cell? ⟨D, 1, none⟩ = some (.int .i64 r') := cell_of p1 1
            have hDn : D < wn.heap.size := block_lt p1
            have KN := Lib.hid p3
            have CK := Lib.hid p2
            have KR : Hid (RefIs wn D r' g' ∧ Sane r' g' ∧ b' ≠ D) := Lib.hid ⟨p1, K1.out.2.2.2.1, HBD.out⟩
            obtain ⟨_, _, s3, s4⟩ := K1.out.2.2.2.1
            clear p1 p2 p3 g0 g1 f0 f1 e0 e1 KC
            have TT : Touch (fun _ => False) wn wn := Touch.refl _ _
            go_region_held3 (fun w' => w'.cell? ⟨D, 0, none⟩ = some (.int .i64 g') ∧ w'.cell? ⟨D, 1, none⟩ = some (.int .i64 r') ∧ Touch (fun _ => False) wn w')
              (first | (refine ⟨?_, ?_, ?_⟩ <;> first | exact Touch.drew TT | exact Touch.alloc (third ‹_ ∧ _ ∧ Touch (fun _ => False) wn _›) _ | (go_keep; done)))
              (first
                | (go_at_call 14; refine (now_ok b' r' g' _ (CK.out.touch (S := fun _ => False) ?_ (fun h => h)) s3 s4).mono ?_; exact third ‹_ ∧ _ ∧ Touch (fun _ => False) wn _›; rintro e w' ⟨rfl, rfl⟩)
                | (go_at_call 15; refine (refNow_any r' g' s3 (by omega) _).mono ?_; rintro e w' ⟨rfl, rfl⟩))
            all_goals
              go_wp2_with fail
              have tt : Touch (fun _ => False) wn (wn.alloc (.cells #[.int .i64 g', .int .i64 r'] 30)).drew := ((Touch.refl _ _).alloc _).drew
              refine ⟨⟨k + 1, b', r', g', by omega, by go_num, rfl, hbB2, ?_⟩, by simp [intOf]; omega⟩
              exact ⟨tt.stays KR.out.1 (fun h => h), CK.out.touch tt (fun h => h), below_touch KN.out tt (Nat.le_refl _) (fun _ h => h.elim), KR.out.2.1, KR.out.2.2⟩
        · obtain rfl : k = l.length := by omega
          clear hlt hk
          go_wp2_with fail
          go_ret
          exact ⟨rfl, K.out.2.2.1⟩
  · have hno : z < 500 ∨ 2000 < z := by omega
    clear hz
    have HN := Lib.hid hno; clear hno
    go_enter Try.func3, Try.ntmps3
    go_wp2_with fail
    refine (works_any _).mono ?_
    rintro e w1 ⟨rfl, hb⟩
    have H1 : Hid (Below w.heap.size w w1) := Lib.hid hb; clear hb
    go_wp2_with fail
    refine (new_no z HN.out _).mono ?_
    rintro e w2 ⟨rfl, rfl⟩
    go_wp2_with fail
    refine (refRates_no z HN.out _).mono ?_
    rintro e w2 ⟨rfl, rfl⟩
    go_wp2_with fail
    go_ret
    exact ⟨rfl, H1.out⟩

end Go.Proofs.Ytbcdmobgefdeaaa
