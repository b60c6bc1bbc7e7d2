/- The contracts of package sum. -/
import Derived.Test.YtjbmfjpodddhaaaSumLaws
import Derived.Test.YtjbmfjpodddhaaaSumTimes
import Derived.Deep.LoopGhost
namespace Go.Proofs.Ytjbmfjpodddhaaa
open Go.RowKit

theorem ret_int {k : IntKind} {a b : Int} (h : a = b) : Ending.returned (.int k a) = .returned (.int k b) := by rw [h]
theorem val_int {k : IntKind} {a b : Int} (h : a = b) : Value.int k a = .int k b := by rw [h]

set_option maxHeartbeats 400000 in
theorem shift_any (x : Nat) (hx : x < 4294967296) (w : World) :
    Calls Try.prog 19 #[.int .u32 x] w fun e w' => e = .returned (.int .u32 (Crc.sh x : Nat)) ∧ w = w' := by
  have hp := xor_poly x hx
  have HP := Lib.hid hp; clear hp
  by_cases h1 : x % 2 = 1
  · have hg : ((x : Int) % 2 == 1) = true := by rw [beq_iff_eq]; omega
    have H1 := Lib.hid h1; clear h1
    go_enter Try.func19, Try.ntmps19
    go_wp2
    go_ret
    refine ⟨?_, rfl⟩
    unfold Crc.sh
    rw [if_pos H1.out, ← HP.out]
    rfl
  · have hg : ((x : Int) % 2 == 1) = false := by rw [beq_eq_false_iff_ne]; omega
    have H1 := Lib.hid h1; clear h1
    go_enter Try.func19, Try.ntmps19
    go_wp2
    go_ret
    refine ⟨?_, rfl⟩
    unfold Crc.sh
    rw [if_neg H1.out, Nat.xor_zero]
    rfl

theorem and_top (y : Nat) (hy : y < 4294967296) : bits BinOp.and IntKind.u32 (y : Int) 2147483648 = ((y / 2147483648 * 2147483648 : Nat) : Int) := by
  have h1 : (BitVec.ofInt 32 (y : Int)).toNat = y := by
    rw [BitVec.ofInt_natCast, BitVec.toNat_ofNat]; exact Nat.mod_eq_of_lt (by omega)
  have h2 : (BitVec.ofInt 32 (2147483648 : Int)).toNat = 2147483648 := by decide
  show IntKind.u32.wrap ((BitVec.ofInt 32 (y : Int) &&& BitVec.ofInt 32 2147483648).toNat : Int) = _
  rw [BitVec.toNat_and, h1, h2, IntKind.wrap_u32]
  have h3 : y &&& 2147483648 = y / 2147483648 * 2147483648 := by
    apply Nat.eq_of_testBit_eq
    intro i
    rw [Nat.testBit_and, show 2147483648 = 2 ^ 31 from by decide, Nat.testBit_two_pow, Nat.testBit_mul_two_pow]
    by_cases h : i = 31
    · subst h
      rw [show y / 2 ^ 31 = y / 2 ^ 31 from rfl]
      simp [Nat.testBit_eq_decide_div_mod_eq]
    · have h5 : y / 2 ^ 31 < 2 := by omega
      have h6 : 31 < i → (y / 2 ^ 31).testBit (i - 31) = false := fun hi => Nat.testBit_lt_two_pow (Nat.lt_of_lt_of_le h5 (by rw [show i - 31 = (i - 32) + 1 from by omega, Nat.pow_succ]; have := Nat.one_le_two_pow (n := i - 32); omega))
      by_cases hi : 31 < i
      · simp [h6 hi, show ¬ (31 = i) from by omega]
      · simp [show ¬ (31 ≤ i) from by omega, show ¬ (31 = i) from by omega]
  rw [h3]
  omega

set_option maxHeartbeats 1000000 in
theorem times_any (a b : Nat) (ha : a < 4294967296) (hb : b < 4294967296) (w : World) :
    Calls Try.prog 18 #[.int .u32 a, .int .u32 b] w fun e w' => e = .returned (.int .u32 (Crc.acc 32 a b : Nat)) ∧ w = w' := by
  have hf0 := Crc.fac_zero b hb
  have HF0 := Lib.hid hf0; clear hf0
  obtain ⟨b0, hb0⟩ : ∃ b0, b0 = b := ⟨_, rfl⟩
  rw [← hb0]
  have HB0 := Lib.hid hb0; clear hb0
  go_enter Try.func18, Try.ntmps18
  go_wp2
  go_loopg [0, 1, 5] 32 (fun g s0 s1 s5 wr => ∃ k : Nat, k + g = 32 ∧ s0 = .int .u32 (Crc.shN k a : Nat) ∧ s1 = .int .u32 (Crc.fac b k : Nat) ∧ s5 = .int .u32 (Crc.acc k a b : Nat) ∧ w = wr)
  case atStart => exact ⟨0, rfl, rfl, by rw [HF0.out, HB0.out], rfl, rfl⟩
  case round =>
    obtain ⟨k, hk, rfl, rfl, rfl, rfl⟩ := hrel
    obtain ⟨A, hA⟩ : ∃ A, A = Crc.shN k a := ⟨_, rfl⟩
    obtain ⟨F, hF⟩ : ∃ F, F = Crc.fac b k := ⟨_, rfl⟩
    obtain ⟨P, hP⟩ : ∃ P, P = Crc.acc k a b := ⟨_, rfl⟩
    have lA : A < 4294967296 := by rw [hA]; exact Crc.shN_lt ha
    have lF : F < 4294967296 := by rw [hF]; exact Crc.fac_lt b k
    have lP : P < 4294967296 := by rw [hP]; exact Crc.acc_lt ha b k
    rw [← hA, ← hF, ← hP]
    have HA := Lib.hid hA; clear hA
    have HF := Lib.hid hF; clear hF
    have HP := Lib.hid hP; clear hP
    by_cases h0 : F = 0
    · subst h0
      have hd := Crc.acc_done a b k (by omega) HF.out.symm
      have HD := Lib.hid hd; clear hd
      clear hk
      go_wp2
      go_ret
      exact ⟨ret_int (by rw [HB0.out, ← HD.out, ← HP.out]), rfl⟩
    · have hk31 : k ≤ 31 := by
        rcases Nat.lt_or_ge k 32 with h | h
        · omega
        · exact absurd (HF.out.trans (Crc.fac_end b k h)) h0
      have hbit := Crc.fac_bit b k hk31
      have hsucc : Crc.acc (k + 1) a b = P ^^^ (if b / 2 ^ (31 - k) % 2 = 1 then A else 0) := by rw [Crc.acc, HP.out, HA.out]
      rw [← hbit, ← HF.out] at hsucc
      have HS := Lib.hid hsucc; clear hsucc hbit
      have hsh := shift_any A lA
      have HSH := Lib.hid hsh; clear hsh
      have hfs := Crc.fac_succ b k
      rw [← HF.out] at hfs
      have HFS := Lib.hid hfs; clear hfs
      have hne : ((F : Int) != 0) = true := by rw [bne_iff_ne]; omega
      have hand := and_top F lF
      by_cases h1 : F / 2147483648 = 1
      · rw [h1] at hand
        have hx := xor_nat P A lP lA
        have HX := Lib.hid hx; clear hx
        have H1 := Lib.hid h1; clear h1
        have H0 := Lib.hid h0; clear h0
        go_wp2_with fail
        refine (HSH.out _).mono ?_
        rintro e w1 ⟨rfl, rfl⟩
        go_wp2_with fail
        go_roundg (gk - 1)
        case measure => omega
        case rel => exact ⟨k + 1, by omega, by rw [Crc.shN_succ, ← HA.out], by rw [HFS.out]; exact val_int (by omega), by rw [HS.out, if_pos H1.out, ← HX.out], rfl⟩
      · have h2 : F / 2147483648 = 0 := by omega
        rw [h2] at hand
        have H1 := Lib.hid h1; clear h1
        have H2 := Lib.hid h2; clear h2
        have H0 := Lib.hid h0; clear h0
        go_wp2_with fail
        refine (HSH.out _).mono ?_
        rintro e w1 ⟨rfl, rfl⟩
        go_wp2_with fail
        go_roundg (gk - 1)
        case measure => omega
        case rel => exact ⟨k + 1, by omega, by rw [Crc.shN_succ, ← HA.out], by rw [HFS.out]; exact val_int (by omega), by rw [HS.out, if_neg H1.out, Nat.xor_zero], rfl⟩

theorem byByte_eq : Crc.shN 8 Crc.one = 8388608 := by decide +kernel

set_option maxHeartbeats 1000000 in
theorem move_any (a n : Nat) (ha : a < 4294967296) (hn : n ≤ 1073741824) (w : World) :
    Calls Try.prog 16 #[.int .u32 a, .int .i64 n] w fun e w' => e = .returned (.int .u32 (Crc.shN (8 * n) a : Nat)) ∧ w = w' := by
  obtain ⟨T, hT⟩ : ∃ T, T = Crc.shN (8 * n) a := ⟨_, rfl⟩
  rw [← hT]
  have HT := Lib.hid hT; clear hT
  go_enter Try.func16, Try.ntmps16
  go_wp2
  go_loopg [0, 1, 5] n (fun g s0 s1 s5 wr => ∃ m A : Nat, Crc.U32 A ∧ g ≤ n ∧ s1 = .int .i64 g ∧ s0 = .int .u32 A ∧ s5 = .int .u32 (Crc.shN m Crc.one : Nat) ∧ Crc.shN (m * g) A = T ∧ w = wr)
  case atStart => exact ⟨8, a, ha, Nat.le_refl _, rfl, rfl, by rw [byByte_eq]; rfl, HT.out.symm, rfl⟩
  case round =>
    obtain ⟨m, A, lA, hg, rfl, rfl, rfl, hAT, rfl⟩ := hrel
    obtain ⟨P, hP⟩ : ∃ P, P = Crc.shN m Crc.one := ⟨_, rfl⟩
    have lP : P < 4294967296 := by rw [hP]; exact Crc.shN_lt (by unfold Crc.U32 Crc.one; decide)
    have hm1 := Crc.times_shN lA m
    have hm2 := Crc.times_shN (show Crc.U32 P from lP) m
    rw [← hP] at hm1 hm2 ⊢
    have hm3 : Crc.shN m P = Crc.shN (m + m) Crc.one := by rw [hP, ← Crc.shN_add]
    rw [hm3] at hm2
    have HAT := Lib.hid hAT; clear hAT
    have HP := Lib.hid hP; clear hP
    clear hm3
    by_cases h0 : gk = 0
    · subst h0
      clear hm1 hm2
      go_wp2_with fail
      go_ret
      exact ⟨ret_int (by rw [← HAT.out]; rfl), rfl⟩
    · have c1 := times_any A P lA lP
      have c2 := times_any P P lP lP
      rw [hm1] at c1
      rw [hm2] at c2
      have C1 := Lib.hid c1; clear c1 hm1
      have C2 := Lib.hid c2; clear c2 hm2
      have hpos : 0 < gk := by omega
      have H0 := Lib.hid h0; clear h0
      by_cases h1 : gk % 2 = 1
      · have hb : ((gk : Int) % 2 == 1) = true := by rw [beq_iff_eq]; omega
        have hl : Crc.shN (m + m) = Crc.shN (m + m) := rfl
        have hfin : Crc.shN ((m + m) * (gk / 2)) (Crc.shN m A) = T := by
          rw [← HAT.out, ← Crc.shN_add]
          congr 1
          have e : gk = 2 * (gk / 2) + 1 := by omega
          generalize gk / 2 = h at e
          subst e
          rw [Nat.mul_add, Nat.mul_one, ← Nat.mul_assoc, Nat.mul_two, Nat.add_comm]
        have HF := Lib.hid hfin; clear hfin hl
        have H1 := Lib.hid h1; clear h1
        go_wp2_with fail
        refine (C1.out _).mono ?_
        rintro e w1 ⟨rfl, rfl⟩
        go_wp2_with fail
        refine (C2.out _).mono ?_
        rintro e w2 ⟨rfl, rfl⟩
        go_wp2_with fail
        go_roundg (gk / 2)
        case measure => omega
        case rel => exact ⟨m + m, Crc.shN m A, Crc.shN_lt lA, by omega, val_int (by omega), rfl, rfl, HF.out, rfl⟩
      · have hb : ((gk : Int) % 2 == 1) = false := by rw [beq_eq_false_iff_ne]; omega
        have hfin : Crc.shN ((m + m) * (gk / 2)) A = T := by
          rw [← HAT.out]
          congr 1
          have e : gk = 2 * (gk / 2) := by omega
          generalize gk / 2 = h at e
          subst e
          rw [← Nat.mul_assoc, Nat.mul_two]
        have HF := Lib.hid hfin; clear hfin
        have H1 := Lib.hid h1; clear h1
        go_wp2_with fail
        refine (C2.out _).mono ?_
        rintro e w2 ⟨rfl, rfl⟩
        go_wp2_with fail
        go_roundg (gk / 2)
        case measure => omega
        case rel => exact ⟨m + m, A, lA, by omega, val_int (by omega), rfl, rfl, HF.out, rfl⟩

theorem nib_val (Y : Nat) (hY : Y < 4294967296) : bits BinOp.xor IntKind.u32 ((Y : Int) / 16) ((Crc.shN 4 (Y % 16) : Nat) : Int) = ((Crc.shN 4 Y : Nat) : Int) := by
  have h := xor_nat (Y / 16) (Crc.shN 4 (Y % 16)) (by omega) (Crc.shN_lt (show Crc.U32 (Y % 16) by unfold Crc.U32; omega))
  rw [← Crc.nib] at h
  exact h

/-- The array of half bytes, as More lays it. -/
def halfCells : Array Value := #[Value.int IntKind.u32 0, Value.int IntKind.u32 274646895, Value.int IntKind.u32 549293790,
    Value.int IntKind.u32 820201905, Value.int IntKind.u32 1098587580, Value.int IntKind.u32 1361435347,
    Value.int IntKind.u32 1640403810, Value.int IntKind.u32 1905808397, Value.int IntKind.u32 2197175160,
    Value.int IntKind.u32 2460548119, Value.int IntKind.u32 2722870694, Value.int IntKind.u32 2987750089,
    Value.int IntKind.u32 3280807620, Value.int IntKind.u32 3553878443, Value.int IntKind.u32 3811616794,
    Value.int IntKind.u32 4084100981]

theorem halfCells_get (j : Nat) (hj : j < 16) : halfCells[j]? = some (.int .u32 (Crc.shN 4 j : Nat)) := by
  have h := Crc.halves_get j hj
  have e : halfCells = (Crc.halves.map (fun n => Value.int .u32 (n : Nat))).toArray := rfl
  rw [e, List.getElem?_toArray, List.getElem?_map, h]
  rfl

theorem take_bits (s : ByteArray) (k : Nat) (h : k < s.size) (x0 : Nat) : Crc.stps (Crc.bitsOf (s.data.toList.take (k + 1))) x0 = Crc.shN 4 (Crc.shN 4 (Crc.stps (Crc.bitsOf (s.data.toList.take k)) x0 ^^^ s[k].toNat)) := by
  rw [bitsOf_take s k h, Crc.stps_append, Crc.stps_byte _ _ s[k].toNat_lt]

set_option maxHeartbeats 1000000 in
set_option maxRecDepth 100000 in
theorem more_any (a : Nat) (s : ByteArray) (w : World) (ha : a < 4294967296) (hs : s.size ≤ 1048576) :
    Calls Try.prog 12 #[.int .u32 a, .string s] w fun e w' => e = .returned (.int .u32 (Crc.more a s.data.toList : Nat)) ∧ Below w.heap.size w w' := by
  have hn := not_nat a ha
  have ho : Crc.U32 (Crc.ones ^^^ a) := Crc.xor_lt Crc.ones_lt (by unfold Crc.U32; omega)
  have HO := Lib.hid ho; clear ho
  obtain ⟨x0, hx0⟩ : ∃ x0, x0 = Crc.ones ^^^ a := ⟨_, rfl⟩
  rw [← hx0] at hn HO
  have HX0 := Lib.hid hx0; clear hx0
  go_enter Try.func12, Try.ntmps12
  go_wp2
  clear hn
  have hw2 : Below w.heap.size w (w.alloc (.cells halfCells 37)) := (Below.refl _ _).alloc (Nat.le_refl _) _
  have hc2 : ∀ j, j < 16 → (w.alloc (.cells halfCells 37)).cell? ⟨w.heap.size, j, none⟩ = some (.int .u32 (Crc.shN 4 j : Nat)) := by
    intro j hj
    simp only [World.cell?, heap_alloc_new]
    exact halfCells_get j hj
  change Code.wp _ _ _ _ (w.alloc (.cells halfCells 37))
  generalize w.alloc (.cells halfCells 37) = w2 at hw2 hc2 ⊢
  have HW := Lib.hid hw2; clear hw2
  have HC := Lib.hid hc2; clear hc2
  go_loop [6, 7, 13] (fun s6 _ s13 => ∃ k : Nat, k ≤ s.size ∧ s13 = .int .i64 k ∧ s6 = .int .u32 (Crc.stps (Crc.bitsOf (s.data.toList.take k)) x0 : Nat)) (fun _ _ s13 => (s.size - intOf s13).toNat)
  case atStart => exact ⟨0, Nat.zero_le _, rfl, by simp [Crc.bitsOf, Crc.stps]⟩
  case round =>
    obtain ⟨k, hk, rfl, rfl⟩ := hrel
    obtain ⟨X, hX⟩ : ∃ X, X = Crc.stps (Crc.bitsOf (s.data.toList.take k)) x0 := ⟨_, rfl⟩
    have hXl : Crc.U32 X := by rw [hX]; exact Crc.stps_lt HO.out (Crc.bitsOf_lt _)
    rw [← hX]
    by_cases hlt : k < s.size
    · have ht := take_bits s k hlt x0
      rw [← hX] at ht
      have HT := Lib.hid ht; clear ht
      have HX := Lib.hid hX; clear hX
      obtain ⟨b, hbe⟩ : ∃ b, b = s[k].toNat := ⟨_, rfl⟩
      have hb : b < 256 := by rw [hbe]; exact s[k].toNat_lt
      rw [← hbe] at HT
      have hbs := hbe.symm
      clear hbe
      have e1 := xor_nat X b hXl (by omega)
      have l1 : X ^^^ b < 4294967296 := Crc.xor_lt hXl (show Crc.U32 b by unfold Crc.U32; omega)
      obtain ⟨Y1, hY1⟩ : ∃ Y, Y = X ^^^ b := ⟨_, rfl⟩
      rw [← hY1] at e1 l1 HT
      have e2 := nib_val Y1 l1
      have c1 := HC.out (Y1 % 16) (Nat.mod_lt _ (by decide))
      obtain ⟨Y2, hY2⟩ : ∃ Y, Y = Crc.shN 4 Y1 := ⟨_, rfl⟩
      have l2 : Y2 < 4294967296 := by rw [hY2]; exact Crc.shN_lt l1
      rw [← hY2] at e2 HT
      have e3 := nib_val Y2 l2
      have c2 := HC.out (Y2 % 16) (Nat.mod_lt _ (by decide))
      obtain ⟨Y3, hY3⟩ : ∃ Y, Y = Crc.shN 4 Y2 := ⟨_, rfl⟩
      rw [← hY3] at e3 HT
      generalize Crc.shN 4 (Y1 % 16) = q1 at e2 c1
      generalize Crc.shN 4 (Y2 % 16) = q2 at e3 c2
      clear hY1 hY2 hY3 hXl
      go_wp2_with fail
      go_round
      case rel => exact ⟨k + 1, by omega, by go_num, by rw [HT.out]⟩
      case measure => simp [intOf]; omega
    · have HX := Lib.hid hX; clear hX
      obtain rfl : k = s.size := by omega
      have hfin : Crc.stps (Crc.bitsOf (s.data.toList.take s.size)) x0 = Crc.stps (Crc.bitsOf s.data.toList) x0 := by
        rw [List.take_of_length_le (by simp)]
      have HF := Lib.hid hfin; clear hfin
      have hnX := not_nat X (by unfold Crc.U32 at hXl; omega)
      go_wp2
      go_ret
      refine ⟨ret_int ?_, HW.out⟩
      rw [HX.out, HF.out, HX0.out]
      rfl

set_option maxHeartbeats 400000 in
theorem of_any (s : ByteArray) (w : World) (hs : s.size ≤ 1048576) :
    Calls Try.prog 11 #[.string s] w fun e w' => e = .returned (.int .u32 (Crc.of s.data.toList : Nat)) ∧ Below w.heap.size w w' := by
  have hm := fun w => more_any 0 s w (by omega) hs
  have HM := Lib.hid hm; clear hm
  go_enter Try.func11, Try.ntmps11
  go_wp2_with fail
  refine (HM.out _).mono ?_
  rintro e w1 ⟨rfl, hb⟩
  have HB := Lib.hid hb; clear hb
  go_wp2_with fail
  go_ret
  exact ⟨rfl, HB.out⟩

set_option maxHeartbeats 400000 in
theorem join_any (a b n : Nat) (w : World) (ha : a < 4294967296) (hb : b < 4294967296) (hn : n ≤ 1073741824) :
    Calls Try.prog 10 #[.int .u32 a, .int .u32 b, .int .i64 n] w fun e w' => e = .returned (.tuple #[.int .u32 (Crc.join a b n : Nat), .int .i64 0]) ∧ Below w.heap.size w w' := by
  have hm := fun w => move_any a n ha hn w
  have hl : Crc.shN (8 * n) a < 4294967296 := Crc.shN_lt ha
  have hj : Crc.join a b n = Crc.shN (8 * n) a ^^^ b := rfl
  obtain ⟨X, hX⟩ : ∃ X, X = Crc.shN (8 * n) a := ⟨_, rfl⟩
  rw [← hX] at hl hj
  simp only [← hX] at hm
  have hx := xor_nat X b hl hb
  have HM := Lib.hid hm; clear hm
  have HJ := Lib.hid hj; clear hj
  clear hX
  go_enter Try.func10, Try.ntmps10
  go_wp2_with fail
  refine (HM.out _).mono ?_
  rintro e w1 ⟨rfl, rfl⟩
  go_wp2_with fail
  go_ret2
  exact ⟨by rw [HJ.out]; rfl, Below.refl _ _⟩

set_option maxHeartbeats 400000 in
theorem joinBad_any (a b : Nat) (n : Int) (w : World) (hn : n < 0 ∨ 1073741824 < n) :
    Calls Try.prog 10 #[.int .u32 a, .int .u32 b, .int .i64 n] w fun e w' => e = .returned (.tuple #[.int .u32 0, .int .i64 2]) ∧ Below w.heap.size w w' := by
  by_cases h0 : n < 0
  · clear hn
    go_enter Try.func10, Try.ntmps10
    go_wp2_with fail
    go_ret2
    exact ⟨rfl, Below.refl _ _⟩
  · have h1 : 1073741824 < n := by omega
    clear hn
    go_enter Try.func10, Try.ntmps10
    go_wp2_with fail
    go_ret2
    exact ⟨rfl, Below.refl _ _⟩

theorem sumSaid : SumSaid where
  of_ s w hs := of_any s w hs
  more a s w ha hs := more_any a s w ha hs
  join a b n w ha hb hn := join_any a b n w ha hb hn
  joinBad a b n w hn := joinBad_any a b n w hn

end Go.Proofs.Ytjbmfjpodddhaaa
