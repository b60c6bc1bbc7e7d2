/- The contracts of package sum. -/
import Derived.Test.YthnoebdfofbpoaaSumRef
import Derived.Test.YthnoebdfofbpoaaSumTimes
import Derived.Deep.LoopGhost
namespace Go.Proofs.Ythnoebdfofbpoaa
open Go.RowKit

theorem ret_int {k : IntKind} {a b : Int} (h : a = b) : Ending.returned (.int k a) = .returned (.int k b) := by rw [h]
theorem val_int {k : IntKind} {a b : Int} (h : a = b) : Value.int k a = .int k b := by rw [h]

theorem and_top (y : Nat) (hy : y < 4294967296) : bits BinOp.and IntKind.u32 (y : Int) 2147483648 = ((y / 2147483648 * 2147483648 : Nat) : Int) := by
  have h1 : (BitVec.ofInt 32 (y : Int)).toNat = y := by
    rw [BitVec.ofInt_natCast, BitVec.toNat_ofNat]; exact Nat.mod_eq_of_lt (by omega)
  have h2 : (BitVec.ofInt 32 (2147483648 : Int)).toNat = 2147483648 := by decide
  show IntKind.u32.wrap ((BitVec.ofInt 32 (y : Int) &&& BitVec.ofInt 32 2147483648).toNat : Int) = _
  rw [BitVec.toNat_and, h1, h2, IntKind.wrap_u32]
  have h3 : y &&& 2147483648 = y / 2147483648 * 2147483648 := by
    apply Nat.eq_of_testBit_eq
    intro i
    rw [Nat.testBit_and, show 2147483648 = 2 ^ 31 from by decide, Nat.testBit_two_pow, Nat.testBit_mul_two_pow]
    by_cases h : i = 31
    · subst h
      rw [show y / 2 ^ 31 = y / 2 ^ 31 from rfl]
      simp [Nat.testBit_eq_decide_div_mod_eq]
    · have h5 : y / 2 ^ 31 < 2 := by omega
      have h6 : 31 < i → (y / 2 ^ 31).testBit (i - 31) = false := fun hi => Nat.testBit_lt_two_pow (Nat.lt_of_lt_of_le h5 (by rw [show i - 31 = (i - 32) + 1 from by omega, Nat.pow_succ]; have := Nat.one_le_two_pow (n := i - 32); omega))
      by_cases hi : 31 < i
      · simp [h6 hi, show ¬ (31 = i) from by omega]
      · simp [show ¬ (31 ≤ i) from by omega, show ¬ (31 = i) from by omega]
  rw [h3]
  omega

theorem byByte_eq : Crc.shN 8 Crc.one = 8388608 := by decide +kernel

theorem nib_val (Y : Nat) (hY : Y < 4294967296) : bits BinOp.xor IntKind.u32 ((Y : Int) / 16) ((Crc.shN 4 (Y % 16) : Nat) : Int) = ((Crc.shN 4 Y : Nat) : Int) := by
  have h := xor_nat (Y / 16) (Crc.shN 4 (Y % 16)) (by omega) (Crc.shN_lt (show Crc.U32 (Y % 16) by unfold Crc.U32; omega))
  rw [← Crc.nib] at h
  exact h

/-- The array of half bytes, as More lays it. -/
def halfCells : Array Value := #[Value.int IntKind.u32 0, Value.int IntKind.u32 274646895, Value.int IntKind.u32 549293790,
    Value.int IntKind.u32 820201905, Value.int IntKind.u32 1098587580, Value.int IntKind.u32 1361435347,
    Value.int IntKind.u32 1640403810, Value.int IntKind.u32 1905808397, Value.int IntKind.u32 2197175160,
    Value.int IntKind.u32 2460548119, Value.int IntKind.u32 2722870694, Value.int IntKind.u32 2987750089,
    Value.int IntKind.u32 3280807620, Value.int IntKind.u32 3553878443, Value.int IntKind.u32 3811616794,
    Value.int IntKind.u32 4084100981]

theorem halfCells_get (j : Nat) (hj : j < 16) : halfCells[j]? = some (.int .u32 (Crc.shN 4 j : Nat)) := by
  have h := Crc.halves_get j hj
  have e : halfCells = (Crc.halves.map (fun n => Value.int .u32 (n : Nat))).toArray := rfl
  rw [e, List.getElem?_toArray, List.getElem?_map, h]
  rfl

theorem take_bits (s : ByteArray) (k : Nat) (h : k < s.size) (x0 : Nat) : Crc.stps (Crc.bitsOf (s.data.toList.take (k + 1))) x0 = Crc.shN 4 (Crc.shN 4 (Crc.stps (Crc.bitsOf (s.data.toList.take k)) x0 ^^^ s[k].toNat)) := by
  rw [bitsOf_take s k h, Crc.stps_append, Crc.stps_byte _ _ s[k].toNat_lt]

set_option maxHeartbeats 1000000 in
set_option maxRecDepth 100000 in
theorem more_any (a : Nat) (s : ByteArray) (w : World) (ha : a < 4294967296) (hs : s.size ≤ 1048576) :
    Calls Try.prog 30 #[.int .u32 a, .string s] w fun e w' => e = .returned (.int .u32 (Crc.more a s.data.toList : Nat)) ∧ Below w.heap.size w w' := by
  have hn := not_nat a ha
  have ho : Crc.U32 (Crc.ones ^^^ a) := Crc.xor_lt Crc.ones_lt (by unfold Crc.U32; omega)
  have HO := Lib.hid ho; clear ho
  obtain ⟨x0, hx0⟩ : ∃ x0, x0 = Crc.ones ^^^ a := ⟨_, rfl⟩
  rw [← hx0] at hn HO
  have HX0 := Lib.hid hx0; clear hx0
  go_enter Try.func30, Try.ntmps30
  go_wp2
  clear hn
  have hw2 : Below w.heap.size w (w.alloc (.cells halfCells 64)) := (Below.refl _ _).alloc (Nat.le_refl _) _
  have hc2 : ∀ j, j < 16 → (w.alloc (.cells halfCells 64)).cell? ⟨w.heap.size, j, none⟩ = some (.int .u32 (Crc.shN 4 j : Nat)) := by
    intro j hj
    simp only [World.cell?, heap_alloc_new]
    exact halfCells_get j hj
  change Code.wp _ _ _ _ (w.alloc (.cells halfCells 64))
  generalize w.alloc (.cells halfCells 64) = w2 at hw2 hc2 ⊢
  have HW := Lib.hid hw2; clear hw2
  have HC := Lib.hid hc2; clear hc2
  go_loop [6, 7, 13] (fun s6 _ s13 => ∃ k : Nat, k ≤ s.size ∧ s13 = .int .i64 k ∧ s6 = .int .u32 (Crc.stps (Crc.bitsOf (s.data.toList.take k)) x0 : Nat)) (fun _ _ s13 => (s.size - intOf s13).toNat)
  case atStart => exact ⟨0, Nat.zero_le _, rfl, by simp [Crc.bitsOf, Crc.stps]⟩
  case round =>
    obtain ⟨k, hk, rfl, rfl⟩ := hrel
    obtain ⟨X, hX⟩ : ∃ X, X = Crc.stps (Crc.bitsOf (s.data.toList.take k)) x0 := ⟨_, rfl⟩
    have hXl : Crc.U32 X := by rw [hX]; exact Crc.stps_lt HO.out (Crc.bitsOf_lt _)
    rw [← hX]
    by_cases hlt : k < s.size
    · have ht := take_bits s k hlt x0
      rw [← hX] at ht
      have HT := Lib.hid ht; clear ht
      have HX := Lib.hid hX; clear hX
      obtain ⟨b, hbe⟩ : ∃ b, b = s[k].toNat := ⟨_, rfl⟩
      have hb : b < 256 := by rw [hbe]; exact s[k].toNat_lt
      rw [← hbe] at HT
      have hbs := hbe.symm
      clear hbe
      have e1 := xor_nat X b hXl (by omega)
      have l1 : X ^^^ b < 4294967296 := Crc.xor_lt hXl (show Crc.U32 b by unfold Crc.U32; omega)
      obtain ⟨Y1, hY1⟩ : ∃ Y, Y = X ^^^ b := ⟨_, rfl⟩
      rw [← hY1] at e1 l1 HT
      have e2 := nib_val Y1 l1
      have c1 := HC.out (Y1 % 16) (Nat.mod_lt _ (by decide))
      obtain ⟨Y2, hY2⟩ : ∃ Y, Y = Crc.shN 4 Y1 := ⟨_, rfl⟩
      have l2 : Y2 < 4294967296 := by rw [hY2]; exact Crc.shN_lt l1
      rw [← hY2] at e2 HT
      have e3 := nib_val Y2 l2
      have c2 := HC.out (Y2 % 16) (Nat.mod_lt _ (by decide))
      obtain ⟨Y3, hY3⟩ : ∃ Y, Y = Crc.shN 4 Y2 := ⟨_, rfl⟩
      rw [← hY3] at e3 HT
      generalize Crc.shN 4 (Y1 % 16) = q1 at e2 c1
      generalize Crc.shN 4 (Y2 % 16) = q2 at e3 c2
      clear hY1 hY2 hY3 hXl
      go_wp2_with fail
      go_round
      case rel => exact ⟨k + 1, by omega, by go_num, by rw [HT.out]⟩
      case measure => simp [intOf]; omega
    · have HX := Lib.hid hX; clear hX
      obtain rfl : k = s.size := by omega
      have hfin : Crc.stps (Crc.bitsOf (s.data.toList.take s.size)) x0 = Crc.stps (Crc.bitsOf s.data.toList) x0 := by
        rw [List.take_of_length_le (by simp)]
      have HF := Lib.hid hfin; clear hfin
      have hnX := not_nat X (by unfold Crc.U32 at hXl; omega)
      go_wp2
      go_ret
      refine ⟨ret_int ?_, HW.out⟩
      rw [HX.out, HF.out, HX0.out]
      rfl

set_option maxHeartbeats 400000 in
theorem of_any (s : ByteArray) (w : World) (hs : s.size ≤ 1048576) :
    Calls Try.prog 26 #[.string s] w fun e w' => e = .returned (.int .u32 (Crc.of s.data.toList : Nat)) ∧ Below w.heap.size w w' := by
  have hm := fun w => more_any 0 s w (by omega) hs
  have HM := Lib.hid hm; clear hm
  go_enter Try.func26, Try.ntmps26
  go_wp2_with fail
  refine (HM.out _).mono ?_
  rintro e w1 ⟨rfl, hb⟩
  have HB := Lib.hid hb; clear hb
  go_wp2_with fail
  go_ret
  exact ⟨rfl, HB.out⟩

end Go.Proofs.Ythnoebdfofbpoaa
