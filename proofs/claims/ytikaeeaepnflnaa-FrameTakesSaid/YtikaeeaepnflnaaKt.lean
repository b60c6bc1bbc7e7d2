/- Sums: the program's. -/
import Derived.Test.YtikaeeaepnflnaaKs
import Derived.Test.YtikaeeaepnflnaaAbs60
namespace Go.Proofs.Ytikaeeaepnflnaa
open Go.RowKit Abs
theorem xorI32 {x y : Nat} (hx : x < 4294967296) (hy : y < 4294967296) : xorI .u32 (x : Int) (y : Int) = ((x ^^^ y : Nat) : Int) := by
  have hz : x ^^^ y < 2 ^ 32 := Nat.xor_lt_two_pow (by omega) (by omega)
  have h1 : (BitVec.ofInt 32 (x : Int)).toNat = x := by
    rw [BitVec.ofInt_natCast, BitVec.toNat_ofNat]; exact Nat.mod_eq_of_lt (by omega)
  have h2 : (BitVec.ofInt 32 (y : Int)).toNat = y := by
    rw [BitVec.ofInt_natCast, BitVec.toNat_ofNat]; exact Nat.mod_eq_of_lt (by omega)
  show IntKind.u32.wrap ((BitVec.ofInt 32 (x : Int) ^^^ BitVec.ofInt 32 (y : Int)).toNat : Int) = _
  rw [BitVec.toNat_xor, h1, h2, wrap_u32_mod]
  omega
theorem comI32 {x : Nat} (hx : x < 4294967296) : comI .u32 (x : Int) = ((Crc.ones ^^^ x : Nat) : Int) := xorI32 (x := 4294967295) (by omega) hx
theorem crc_lt (l : Bytes) : Crc.of l < 4294967296 := Crc.of_lt l
abbrev TH16 : Nat := 64
noncomputable def halfV : List AV := Crc.halves.map fun (m : Nat) => .int .u32 (m : Int)
theorem halfV_get {j : Nat} (hj : j < 16) : halfV[j]? = some (.int .u32 ((Crc.shN 4 j : Nat) : Int)) := by
  unfold halfV
  rw [List.getElem?_map, Crc.halves_get j hj]
  rfl
theorem bitsOf_take {s : Bytes} {k : Nat} (h : k < s.length) (x0 : Nat) : Crc.stps (Crc.bitsOf (s.take (k + 1))) x0 = Crc.shN 4 (Crc.shN 4 (Crc.stps (Crc.bitsOf (s.take k)) x0 ^^^ s[k].toNat)) := by
  rw [List.take_succ_eq_append_getElem h, Crc.bitsOf_append, Crc.stps_append, show Crc.bitsOf [s[k]] = Crc.bits8 s[k].toNat by simp [Crc.bitsOf], Crc.stps_byte _ _ s[k].toNat_lt]
theorem nibI {Y : Nat} (hY : Y < 4294967296) : xorI .u32 ((Y / 16 : Nat) : Int) ((Crc.shN 4 (Y % 16) : Nat) : Int) = ((Crc.shN 4 Y : Nat) : Int) := by
  have h := xorI32 (x := Y / 16) (y := Crc.shN 4 (Y % 16)) (by omega) (Crc.shN_lt (show Crc.U32 (Y % 16) by unfold Crc.U32; omega))
  rw [← Crc.nib] at h
  exact h
section
variable {n d : Nat} {h H : AHeap} {s : Bytes} {Q : ARes → AHeap → Prop} {x0 : Nat}
theorem more_loop (hx0 : x0 < 4294967296) (hs : s.length < 1000000000) (kr : RowH H h.next TH16 halfV) {k13 : Int → AHeap → R} (hk : Wp (k13 ((Crc.stps (Crc.bitsOf s) x0 : Nat) : Int) H) Q) :
    ∀ (r i fu X : Nat), r + i = s.length → r < fu → X = Crc.stps (Crc.bitsOf (s.take i)) x0 → Wp (sum_More_L0 s h k13 fu (X : Int) (i : Int) H) Q
  | _, _, 0, _, _, hf, _ => by omega
  | 0, i, fu + 1, X, hi, _, hX => by
    have ll := lenS_nat s
    rw [sum_More_L0_s]
    unfold sum_More_L0b
    refine Wp.lett (Wp.iff (by rw [decide_eq_false_iff_not]; omega) ?_)
    rw [List.take_of_length_le (by omega)] at hX
    rw [hX]
    exact hk
  | r + 1, i, fu + 1, X, hi, hf, hX => by
    have ll := lenS_nat s
    have hil : i < s.length := by omega
    have hXl : X < 4294967296 := by
      rw [hX]
      exact Crc.stps_lt hx0 (Crc.bitsOf_lt _)
    have hb := s[i].toNat_lt
    have l1 : X ^^^ s[i].toNat < 4294967296 := Nat.xor_lt_two_pow (n := 32) hXl (by omega)
    have l2 : Crc.shN 4 (X ^^^ s[i].toNat) < 4294967296 := Crc.shN_lt l1
    have e1 : ∀ Y : Nat, shrI .u32 (Y : Int) 4 = some ((Y / 16 : Nat) : Int) := fun Y => by
      have : shrI .u32 (Y : Int) 4 = some ((Y : Int).fdiv 16) := rfl
      rw [this, Int.fdiv_eq_ediv_of_nonneg _ (by omega)]
      rfl
    have e2 : ∀ Y : Nat, remI .u32 (Y : Int) 16 = some ((Y % 16 : Nat) : Int) := fun Y => rfl
    have e3 : ∀ j : Nat, j < 16 → idxA 16 1 (newP h) (j : Int) = some (.ptr h.next j) := fun j hj => by
      have : idxA 16 1 (newP h) (j : Int) = (match Nat.blt j 16 with | true => some (AV.ptr h.next (0 + j * 1)) | false => none) := rfl
      rw [this, show Nat.blt j 16 = true by simpa using hj, Nat.zero_add, Nat.mul_one]
    rw [sum_More_L0_s]
    unfold sum_More_L0b
    refine Wp.lett (Wp.ift (by rw [decide_eq_true_eq]; omega) (Wp.obind (idxS_nat hil) (Wp.lettu32 (by omega) (by omega) (Wp.lett ?_))))
    rw [xorI32 hXl (by omega)]
    refine Wp.obind (e1 _) (Wp.obind (e2 _) (Wp.obind (e3 _ (Nat.mod_lt _ (by decide))) (Wp.obind (RowH.cell' kr (halfV_get (Nat.mod_lt _ (by decide)))) (Wp.obind (avInt_int _ _) (Wp.lett ?_)))))
    rw [nibI l1]
    refine Wp.obind (e1 _) (Wp.obind (e2 _) (Wp.obind (e3 _ (Nat.mod_lt _ (by decide))) (Wp.obind (RowH.cell' kr (halfV_get (Nat.mod_lt _ (by decide)))) (Wp.obind (avInt_int _ _) (Wp.lett ?_)))))
    rw [nibI l2]
    refine Wp.lettw (by omega) (by omega) ?_
    rw [show (i : Int) + 1 = ((i + 1 : Nat) : Int) by omega]
    exact more_loop hx0 hs kr hk r (i + 1) fu _ (by omega) (by omega) (by rw [bitsOf_take hil, hX])
theorem more_w {a : Nat} (ha : a < 4294967296) (hs : s.length < 1000000000) (hn : s.length < n) : world n (d + 1) 30 [.int .u32 (a : Int), strA s] h = some (.ret (.int .u32 ((Crc.more a s : Nat) : Int)), h) := by
  apply Wp.eq
  rw [w_sum_More]
  refine Wp.gc ?_
  unfold sum_More
  refine Wp.obind (a := halfV) (by kernel_rfl) (Wp.mnew (Mem.nil [] h) fun h2 M2 => ?_)
  rw [newP_eq]
  refine Wp.sa0 M2 (by kernel_rfl) rfl (by kernel_rfl) fun h3 M3 => Wp.lett (Wp.lettG fun k13 e13 => ?_)
  have ho : Crc.ones ^^^ a < 4294967296 := Crc.xor_lt Crc.ones_lt ha
  rw [comI32 ha]
  refine more_loop ho hs M3.at0.1 ?_ s.length 0 n _ (Nat.add_zero _) hn rfl
  rw [e13]
  dsimp only
  rw [comI32 (Crc.stps_lt ho (Crc.bitsOf_lt _))]
  exact Wp.lett (Wp.ret ⟨M3.tch.above, rfl, rfl, rfl⟩)
theorem sum_w (hs : s.length < 1000000000) (hn : s.length < n) : world n (d + 2) 26 [strA s] h = some (.ret (.int .u32 ((Crc.of s : Nat) : Int)), h) := by
  apply Wp.eq
  rw [w_sum_Of]
  refine Wp.gc' ?_
  unfold sum_Of
  exact Wp.callN (more_w (n := n) (d := d) (a := 0) (by omega) hs hn) (Wp.obind (avInt_int _ _) (Wp.ret ⟨⟨rfl, rfl⟩, fun _ => ⟨rfl, rfl⟩⟩))
end
end Go.Proofs.Ytikaeeaepnflnaa
