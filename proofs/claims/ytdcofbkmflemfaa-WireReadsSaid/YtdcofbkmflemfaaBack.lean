/- 'dragomanlaw01.WireBack': the walk: true, whatever the input. -/
import Derived.Test.YtdcofbkmflemfaaBackPure
import Derived.Test.YtdcofbkmflemfaaKnown
namespace Go.Proofs.Ytdcofbkmflemfaa
open Go.RowKit

theorem total_bound {M : Nat} : ∀ {l : List ByteArray}, (∀ x ∈ l, x.size ≤ M) → total l ≤ l.length * M
  | [], _ => by simp [total]
  | x :: l, h => by
    have h1 := total_bound (l := l) (fun y hy => h y (by simp [hy]))
    have h2 := h x (by simp)
    simp [total, Nat.add_mul]
    omega

theorem u8_num {n : Nat} {C : List UInt8} : (numS 1 n).data.toList ++ C = numL 1 n ++ C := by rw [numS_list]

theorem back_reads (a b c : Nat) (s rest : ByteArray) (l : List ByteArray) (x : Bool) (ha : a < 256) (hb : b < 4294967296) (hc : c < 256 ^ 8) (all : Nat) (hall : all = s.size + total l) (hbig : all ≤ 65536) (hl : l.length ≤ 1024) (S : ByteArray)
    (hS : S = numS 1 a ++ textsS l ++ numS 1 x.toNat ++ numS 4 b ++ textS s ++ numS 8 c ++ rest) :
    ∃ t1 t2 t3 t4 t5 t6 : St, numF S 1 ⟨0, 0, 0⟩ = (a, t1) ∧ textsF S l.length all t1 = (l, t2) ∧ boolF S t2 = (x, t3) ∧ numF S 4 t3 = (b, t4) ∧ textF S s.size t4 = (s, t5) ∧ numF S 8 t5 = (c, t6) ∧
      restF S t6 = rest ∧ t6.err = 0 ∧ t6.bad = 0 ∧ endF S t6 = (if rest.size = 0 then (0, 0) else (7, (t6.p : Int))) ∧ 0 < t6.p := by
  have h0 : Ahead S 0 (numL 1 a ++ ((textsS l).data.toList ++ (numL 1 x.toNat ++ (numL 4 b ++ ((textS s).data.toList ++ (numL 8 c ++ rest.data.toList)))))) := by
    refine ⟨Nat.zero_le _, ?_⟩
    rw [hS, List.drop_zero]
    simp [← numS_list]
  obtain ⟨e1, h1⟩ := h0.num (by simpa using ha)
  obtain ⟨e2, h2⟩ := h1.texts (l := l) (count := (l.length : Int)) (most := (all : Int)) (by omega) (Int.le_refl _) (by omega) (by omega)
  obtain ⟨e3, h3⟩ := h2.bool
  obtain ⟨e4, h4⟩ := h3.num (by simpa using hb)
  obtain ⟨e5, h5⟩ := h4.text (x := s) (most := (s.size : Int)) (by omega) (Int.le_refl _)
  obtain ⟨e6, h6⟩ := h5.num hc
  refine ⟨_, _, _, _, _, _, e1, e2, e3, e4, e5, e6, ?_, rfl, rfl, ?_, Nat.succ_pos _⟩
  · unfold restF
    simp only [ne_eq, not_true_eq_false, if_false]
    obtain ⟨g1, g2⟩ := h6
    have g3 := extract_bytesAt S _ rest.size rest (by unfold bytesAt; rw [g2]; exact List.take_of_length_le (by simp))
    have g4 := congrArg List.length g2
    simp only [List.length_drop, Array.length_toList] at g4
    have g5 : S.data.size = S.size := rfl
    have g6 : rest.data.size = rest.size := rfl
    rw [show S.size = _ + rest.size from (by omega : S.size = (0 + 1 + (textsS l).size + 1 + 4 + 4 + s.size + 8) + rest.size)]
    exact g3
  · obtain ⟨g1, g2⟩ := h6
    have g4 := congrArg List.length g2
    simp only [List.length_drop, Array.length_toList] at g4
    have g5 : S.data.size = S.size := rfl
    have g6 : rest.data.size = rest.size := rfl
    unfold endF
    by_cases hr : rest.size = 0
    · have : ¬ 0 + 1 + (textsS l).size + 1 + 4 + 4 + s.size + 8 < S.size := by omega
      simp [hr]
      omega
    · have : 0 + 1 + (textsS l).size + 1 + 4 + 4 + s.size + 8 < S.size := by omega
      simp [hr]
      omega

theorem Strs.ins {w : World} {B : Nat} {v : Value} {l : List ByteArray} (h : Strs w B v l) : Ins w v l := by
  obtain ⟨h1, h2⟩ := h
  rcases h2 with ⟨rfl, h0⟩ | ⟨g, cap, cur, rfl, hB, hg, hcap, hm, hs, ht⟩
  · have : l = [] := List.eq_nil_of_length_eq_zero h0
    subst this
    exact ⟨none, 0, rfl, by simp, .inl rfl⟩
  · refine ⟨_, cap, rfl, ?_, .inr ⟨g, 0, rfl, lt_of_block hg, fun i hi => ?_⟩⟩
    · unfold maxLen at hm; omega
    · have := World.ownsRow.cellAt (w := w) (base := B) (e := 9) (size := 1) (g := g) (n := l.length) (cap := cap) (xs := l.map Value.string) ⟨h1, .inr ⟨g, cap, cur, rfl, hB, hg, hcap, hm, hs, ht⟩⟩ i (by omega)
      rw [Nat.zero_add, this]
      simp [List.getD, List.getElem?_eq_getElem hi]

theorem equal_any {w : World} {v u : Value} {l k : List ByteArray} (h1 : Ins w v l) (h2 : Ins w u k) :
    Calls Try.prog 29 #[v, u] w fun e w' => e = .returned (.bool (decide (l = k))) ∧ Below w.heap.size w w' := by
  obtain ⟨a, c, rfl, hl, h1⟩ := h1
  obtain ⟨a', c', rfl, hk, h2⟩ := h2
  by_cases hlen : l.length = k.length
  · rcases h1 with rfl | ⟨b, o, rfl, hb, hc⟩
    · have hk0 : k = [] := List.eq_nil_of_length_eq_zero hlen.symm
      subst hk0
      refine (Try.slices_Equal_string_empty a a' c 0 c' w (by omega)).mono ?_
      rintro e w' ⟨rfl, rfl⟩
      exact ⟨rfl, Below.refl _ _⟩
    · rcases h2 with rfl | ⟨b', o', rfl, hb', hc'⟩
      · have hl0 : l = [] := List.eq_nil_of_length_eq_zero hlen
        subst hl0
        refine (Try.slices_Equal_string_empty _ a' c 0 c' w (by omega)).mono ?_
        rintro e w' ⟨rfl, rfl⟩
        exact ⟨rfl, Below.refl _ _⟩
      · refine (Try.slices_Equal_string b o l.length c b' o' k.length c' l k w (Nat.le_refl _) (Nat.le_refl _) (by omega) (by omega) hc hc').mono ?_
        rintro e w' ⟨rfl, q, rfl⟩
        exact ⟨by rw [List.take_length, List.take_length], below_drewN _ _⟩
  · refine (Try.slices_Equal_string_lens a a' l.length c k.length c' w hlen).mono ?_
    rintro e w' ⟨rfl, rfl⟩
    have : l ≠ k := fun e => hlen (by rw [e])
    exact ⟨by simp [this], Below.refl _ _⟩

/-- What a walk asks of a list of strings that came in. -/
structure Held (W : World) (v : Value) (l : List ByteArray) : Prop where
  ins : Ins W v l
  room : l.length * 16 ≤ 140737488351232
  small : ∀ x ∈ l, x.size ≤ 140737488351232

theorem Held.cells {W : World} {a : Option Addr} {cap : Nat} {l : List ByteArray} (h : Ins W (.slice a l.length cap) l) :
    ∀ w, Below W.heap.size W w → ∀ k, k < l.length → ∃ b o, a = some ⟨b, o, none⟩ ∧ w.cell? ⟨b, o + k, none⟩ = some (.string (l.getD k ByteArray.empty)) := by
  intro w hb k hk
  obtain ⟨a', cap', he, _, h⟩ := h
  cases he
  rcases h with h | ⟨b, o, rfl, hlt, hc⟩
  · simp [h] at hk
  · exact ⟨b, o, rfl, by rw [hb.cell hlt]; exact hc k hk⟩

set_option maxHeartbeats 1000000 in
theorem back_long (a b c : Int) (s rest : ByteArray) (v : Value) (l : List ByteArray) (W : World) (h : Held W v l) (hl : 1024 < l.length) :
    Calls Try.prog 6 #[.int .u8 a, .int .u32 b, .int .u64 c, .string s, v, .string rest] W fun e w' => e = .returned (.bool true) ∧ Below W.heap.size W w' := by
  obtain ⟨ao, cap, rfl, hlm, _⟩ := h.ins
  have HC := Lib.hid (Held.cells h.ins)
  clear h
  go_enter Try.func6, Try.ntmps6
  go_wp2_with fail
  refine (works_any _).mono ?_
  rintro e w1 ⟨rfl, hb⟩
  have H1 := Lib.hid hb; clear hb
  go_wp2_with fail
  go_loop [13, 15, 28] (fun s13 _ s28 => ∃ (z : Int) (k : Nat), k ≤ l.length ∧ s28 = .int .i64 k ∧ s13 = .int .i64 z) (fun _ _ s28 => (l.length - intOf s28).toNat)
  case atStart => exact ⟨_, 0, Nat.zero_le _, rfl, rfl⟩
  case round =>
    obtain ⟨z, k, hk, rfl, rfl⟩ := hrel
    by_cases hlt : k < l.length
    · obtain ⟨bb, o, rfl, hc⟩ := HC.out w1 H1.out k hlt
      go_wp2_with fail
      go_round
      case rel => exact ⟨_, k + 1, by omega, by go_num, rfl⟩
      case measure => simp [intOf]; omega
    · go_wp2_with fail
      all_goals
        go_ret
        exact ⟨rfl, H1.out⟩

theorem total_small {l : List ByteArray} (h : ∀ x ∈ l, x.size ≤ 140737488351232) (hl : l.length ≤ 1024) : total l ≤ 144115188071661568 := by
  have h1 := total_bound h
  have h2 : l.length * 140737488351232 ≤ 1024 * 140737488351232 := Nat.mul_le_mul_right _ hl
  omega

/-- What the law has reckoned of the texts when k of them are reckoned. -/
def AllRel (l : List ByteArray) (n : Nat) (s13 s28 : Value) : Prop := ∃ k : Nat, k ≤ l.length ∧ s28 = .int .i64 k ∧ s13 = .int .i64 ((n + total (l.take k) : Nat) : Int)

set_option maxHeartbeats 1000000 in
theorem back_big (a b c : Int) (s rest : ByteArray) (v : Value) (l : List ByteArray) (W : World) (h : Held W v l) (hl : l.length ≤ 1024) (hs : s.size ≤ 140737488351232) (hbig : 65536 < s.size + total l ∨ 65536 < rest.size) :
    Calls Try.prog 6 #[.int .u8 a, .int .u32 b, .int .u64 c, .string s, v, .string rest] W fun e w' => e = .returned (.bool true) ∧ Below W.heap.size W w' := by
  obtain ⟨ao, cap, rfl, hlm, _⟩ := h.ins
  have HC := Lib.hid (Held.cells h.ins)
  have htot := total_small h.small hl
  clear h
  have HBIG := Lib.hid hbig; clear hbig
  go_enter Try.func6, Try.ntmps6
  go_wp2_with fail
  refine (works_any _).mono ?_
  rintro e w1 ⟨rfl, hb⟩
  have H1 := Lib.hid hb; clear hb
  go_wp2_with fail
  go_loop [13, 15, 28] (fun s13 _ s28 => AllRel l s.size s13 s28) (fun _ _ s28 => (l.length - intOf s28).toNat)
  case atStart => exact ⟨0, Nat.zero_le _, rfl, by simp [total]⟩
  case round =>
    obtain ⟨k, hk, rfl, rfl⟩ := hrel
    by_cases hlt : k < l.length
    · obtain ⟨bb, o, rfl, hc⟩ := HC.out w1 H1.out k hlt
      have h1 := total_take_succ l k hlt
      have h2 := total_take_le l (k + 1)
      have HT := Lib.hid h1
      obtain ⟨x, hx⟩ : ∃ x, x = l.getD k ByteArray.empty := ⟨_, rfl⟩
      rw [← hx] at hc h1
      obtain ⟨m, hm⟩ : ∃ m, m = s.size + total (l.take k) := ⟨_, rfl⟩
      have hle : m + x.size ≤ 144255925560012800 := by omega
      rw [← hm]
      have HX := Lib.hid hx
      have HM := Lib.hid hm
      clear h1 h2 hx hm
      go_wp2_with fail
      go_round
      case rel => exact ⟨k + 1, by omega, by go_num, by rw [HT.out, ← HX.out, ← Nat.add_assoc, ← HM.out]; go_num⟩
      case measure => simp [intOf]; omega
    · obtain rfl : k = l.length := by omega
      rw [List.take_length]
      by_cases hall : 65536 < s.size + total l
      · go_wp2_with fail
        go_ret
        exact ⟨rfl, H1.out⟩
      · have hrest : 65536 < rest.size := by rcases HBIG.out with h | h <;> omega
        go_wp2_with fail
        go_ret
        exact ⟨rfl, H1.out⟩

end Go.Proofs.Ytdcofbkmflemfaa
