/- Layer 2's law of three texts added, from what the sum answers. -/
import Derived.Test.YtjbmfjpodddhaaaSumLaws
import Derived.WalkLawsBesides
import Derived.Deep.RegionWith
import Derived.RegionTactic
namespace Go.Proofs.Ytjbmfjpodddhaaa
open Go.RowKit

theorem Try.infoByte : (Try.prog.info? 5).map (fun i => (i.zero, i.size, i.bytes)) = some (some (.int .u8 0), 1, 1) := by kernel_rfl

/-- What stands in the row when k bytes are written. -/
def rowX (D : List UInt8) (n k : Nat) : List Value := (D.take k).map (fun x => Value.int .u8 x.toNat) ++ List.replicate (n - k) (.int .u8 0)

theorem rowX_set (D : List UInt8) (n k : Nat) (hk : k < n) (hD : D.length = n) : (rowX D n k).set k (.int .u8 (D[k]'(by omega)).toNat) = rowX D n (k + 1) := by
  have hl : ((D.take k).map (fun x => Value.int .u8 x.toNat)).length = k := by simp; omega
  unfold rowX
  rw [List.set_append_right _ _ (by omega), hl, Nat.sub_self, show n - k = (n - (k + 1)) + 1 from by omega, List.replicate_succ, List.set_cons_zero, List.take_succ_eq_append_getElem (by omega), List.map_append, List.append_assoc]
  rfl

theorem rowX_length (D : List UInt8) (n k : Nat) (hk : k ≤ n) (hD : D.length = n) : (rowX D n k).length = n := by simp [rowX]; omega

theorem rowX_zero (D : List UInt8) (n : Nat) : rowX D n 0 = List.replicate n (.int .u8 0) := by simp [rowX]
theorem rowX_full (D : List UInt8) (n : Nat) (hD : D.length = n) : rowX D n n = D.map (fun x => Value.int .u8 x.toNat) := by
  subst hD
  simp [rowX]

theorem xor8 (x y : UInt8) : bits BinOp.xor IntKind.u8 (x.toNat : Int) (y.toNat : Int) = ((x ^^^ y).toNat : Int) := by
  have hx := x.toNat_lt
  have hy := y.toNat_lt
  have hz := (x ^^^ y).toNat_lt
  have h1 : (BitVec.ofInt 8 (x.toNat : Int)).toNat = x.toNat := by
    rw [BitVec.ofInt_natCast, BitVec.toNat_ofNat]; exact Nat.mod_eq_of_lt (by omega)
  have h2 : (BitVec.ofInt 8 (y.toNat : Int)).toNat = y.toNat := by
    rw [BitVec.ofInt_natCast, BitVec.toNat_ofNat]; exact Nat.mod_eq_of_lt (by omega)
  show IntKind.u8.wrap ((BitVec.ofInt 8 (x.toNat : Int) ^^^ BitVec.ofInt 8 (y.toNat : Int)).toNat : Int) = _
  rw [BitVec.toNat_xor, h1, h2, IntKind.wrap_u8, ← UInt8.toNat_xor]
  omega

theorem take_len (s : ByteArray) (n : Nat) (h : n ≤ s.size) : (s.data.toList.take n).length = n := by
  have : s.data.toList.length = s.size := by simp
  rw [List.length_take, this]
  omega

/-- The first n bytes of three texts, added. -/
def sum3 (a b c : ByteArray) (n : Nat) : List UInt8 := Crc.addL (Crc.addL (a.data.toList.take n) (b.data.toList.take n)) (c.data.toList.take n)

theorem addL_get : ∀ (l m : List UInt8) (k : Nat) (h1 : k < l.length) (h2 : k < m.length) (h : k < (Crc.addL l m).length), (Crc.addL l m)[k] = l[k] ^^^ m[k]
  | b :: l, c :: m, 0, _, _, _ => rfl
  | b :: l, c :: m, k + 1, h1, h2, h => addL_get l m k (by simpa using h1) (by simpa using h2) (by simpa [Crc.addL] using h)

theorem sum3_length (a b c : ByteArray) (n : Nat) (ha : n ≤ a.size) (hb : n ≤ b.size) (hc : n ≤ c.size) : (sum3 a b c n).length = n := by
  have h1 : (a.data.toList.take n).length = n := take_len a n ha
  have h2 : (b.data.toList.take n).length = n := take_len b n hb
  have h3 : (c.data.toList.take n).length = n := take_len c n hc
  have h4 := Crc.addL_length (a.data.toList.take n) (b.data.toList.take n) (by omega)
  unfold sum3
  rw [Crc.addL_length _ _ (by omega), h3]

theorem sum3_get (a b c : ByteArray) (n k : Nat) (hk : k < n) (ha : n ≤ a.size) (hb : n ≤ b.size) (hc : n ≤ c.size) :
    (sum3 a b c n)[k]'(by rw [sum3_length a b c n ha hb hc]; exact hk) = a[k]'(by omega) ^^^ b[k]'(by omega) ^^^ c[k]'(by omega) := by
  have h1 : (a.data.toList.take n).length = n := take_len a n ha
  have h2 : (b.data.toList.take n).length = n := take_len b n hb
  have h3 : (c.data.toList.take n).length = n := take_len c n hc
  have h4 := Crc.addL_length (a.data.toList.take n) (b.data.toList.take n) (by omega)
  unfold sum3
  rw [addL_get _ _ k (by omega) (by omega), addL_get _ _ k (by omega) (by omega)]
  simp
  rfl

section
variable (hS : SumSaid)
include hS

set_option maxHeartbeats 1000000 in
theorem sumAdded_any (a b c : ByteArray) (ha : a.size ≤ 140737488351232) (w : World) :
    Calls Try.prog 7 #[.string a, .string b, .string c] w fun e w' => e = .returned (.bool true) ∧ Below w.heap.size w w' := by
  obtain ⟨n, hn⟩ : ∃ n, n = min (min a.size b.size) c.size := ⟨_, rfl⟩
  have hm : ∀ (ts : Array TypeId) (t : TypeId) (w : World), (Builtin.min_ ts t #[.int .i64 a.size, .int .i64 b.size, .int .i64 c.size]).run Try.prog w = .ok (.int .i64 n) w := by
    intro ts t w
    rw [run_min_int3]
    congr 2
    split <;> split at * <;> omega
  have hna : n ≤ a.size := by omega
  have hnb : n ≤ b.size := by omega
  have hnc : n ≤ c.size := by omega
  have HN := Lib.hid hn; clear hn
  go_enter Try.func7, Try.ntmps7
  go_wp2_with fail
  refine (sumWorks hS _).mono ?_
  rintro e w1 ⟨rfl, hb1⟩
  have H1 := Lib.hid hb1; clear hb1
  by_cases hbig : 3000 < n
  · go_wp2_with fail
    go_ret
    exact ⟨rfl, H1.out⟩
  · obtain ⟨i0, hi, hz0, hz1, hz2⟩ := info_parts Try.infoByte
    have hn3 : n ≤ 3000 := by omega
    clear hbig
    go_wp2_with (with_reducible refine wpList_make_full _ rfl _ _ _ rfl w.heap.size 5 i0 (.int .u8 0) 1 Try.underlying33 hi hz0 hz1 .i64 .i64 _ _ n rfl rfl rfl rfl ?_ ?_ ?_ ?_)
    · rw [hz2]; omega
    · unfold maxLen; omega
    · exact H1.out.size
    intro w2 hown hgr
    have hD := sum3_length a b c n hna hnb hnc
    have HD := Lib.hid hD; clear hD
    have hown2 : w2.ownsRow w.heap.size 5 1 (.slice (some ⟨w1.heap.size, 0, none⟩) n n) n (rowX (sum3 a b c n) n 0) := by
      rw [rowX_zero]; simpa [toList_madeCells_one, Value.cells] using hown
    have HO := Lib.hid hown2
    have H2 : Hid (Below w.heap.size w w2) := Lib.hid (H1.out.grown hgr H1.out.size (by simp))
    have hg1 : w.heap.size ≤ w1.heap.size := H1.out.size
    clear hown hown2 hgr hi hz0 hz1 hz2 hm
    go_wp2_with fail
    go_loopw [9, 24] (fun _ s24 wr => ∃ k : Nat, k ≤ n ∧ s24 = .int .i64 k ∧ wr.ownsRow w.heap.size 5 1 (.slice (some ⟨w1.heap.size, 0, none⟩) n n) n (rowX (sum3 a b c n) n k) ∧ Below w.heap.size w wr) (fun _ s24 _ => (n - intOf s24).toNat)
    case atStart => exact ⟨0, Nat.zero_le _, rfl, HO.out, H2.out⟩
    case round =>
      clear HO
      obtain ⟨k, hk, rfl, hown, hbl⟩ := hrel
      by_cases hlt : k < n
      · have hl := rowX_length (sum3 a b c n) n k hk HD.out
        have hcell : wr.cell? ⟨w1.heap.size, k, none⟩ = some ((rowX (sum3 a b c n) n k)[k]'(by omega)) := by
          rw [hown.cellAt k (by omega)]; exact List.getElem?_eq_getElem _
        have hfro := hown.frozenAt k
        obtain ⟨u, hu⟩ : ∃ u, u = (rowX (sum3 a b c n) n k)[k]'(by omega) := ⟨_, rfl⟩
        rw [← hu] at hcell
        have HO := Lib.hid hown
        have HB := Lib.hid hbl
        have ga : k < a.size := by omega
        have gb : k < b.size := by omega
        have gc : k < c.size := by omega
        have x1 := xor8 a[k] b[k]
        have x2 := xor8 (a[k] ^^^ b[k]) c[k]
        have hs3 := sum3_get a b c n k hlt hna hnb hnc
        have hset := rowX_set (sum3 a b c n) n k hlt HD.out
        obtain ⟨q, hq⟩ : ∃ q, q = (sum3 a b c n)[k]'(by rw [HD.out]; exact hlt) := ⟨_, rfl⟩
        rw [UInt8.toNat_xor, ← hs3, ← hq] at x2
        rw [← hq] at hset
        have HSET := Lib.hid hset
        clear hl hu hown hbl hs3 hset hq
        go_wp2_with fail
        go_region
        go_wp2_with fail
        go_roundw
        case rel =>
          refine ⟨k + 1, by omega, by go_num, ?_, ?_⟩
          · have h1 := (HO.out.stored k (.int .u8 q.toNat)).1
            rw [HSET.out] at h1
            exact h1.drew
          · exact (HB.out.setCell (p := ⟨w1.heap.size, k, none⟩) hg1 _).drew
        case measure => simp [intOf]; omega
      · obtain rfl : k = n := by omega
        have hcv := run_convert_bytes_arg (P := Try.prog) wr.drew 33 5 Try.underlying33 Try.underlying5 w1.heap.size 0 k k ((sum3 a b c k).map fun x => (x.toNat : Int)) (by rw [List.length_map, HD.out]) (fun j hj => by
          show wr.cell? _ = _
          rw [Nat.zero_add, hown.cellAt j (by omega), rowX_full _ _ HD.out]; simp [List.getD, List.getElem?_eq_getElem (show j < (sum3 a b c k).length by rw [HD.out]; exact hj)]) 9 Try.underlying9
        obtain ⟨A, hA⟩ : ∃ A, A = strOfNums ((sum3 a b c k).map fun x => (x.toNat : Int)) := ⟨_, rfl⟩
        rw [← hA] at hcv
        have hAl : A.data.toList = sum3 a b c k := by
          rw [hA, strOfNums_data, List.map_map]
          have e2 : ((fun n : Int => UInt8.ofNat n.toNat) ∘ fun b : UInt8 => (b.toNat : Int)) = id := by
            funext b
            simp
          rw [e2, List.map_id]
        have zA : A.size ≤ 1048576 := by rw [hA, strOfNums_size, List.length_map, HD.out]; omega
        have za : (a.extract 0 k).size ≤ 1048576 := by rw [ByteArray.size_extract]; omega
        have zb : (b.extract 0 k).size ≤ 1048576 := by rw [ByteArray.size_extract]; omega
        have zc : (c.extract 0 k).size ≤ 1048576 := by rw [ByteArray.size_extract]; omega
        have ea : (a.extract 0 k).data.toList = a.data.toList.take k := by rw [ByteArray.data_extract, Array.toList_extract, List.extract_eq_take_drop, List.drop_zero, Nat.sub_zero]
        have eb : (b.extract 0 k).data.toList = b.data.toList.take k := by rw [ByteArray.data_extract, Array.toList_extract, List.extract_eq_take_drop, List.drop_zero, Nat.sub_zero]
        have ec : (c.extract 0 k).data.toList = c.data.toList.take k := by rw [ByteArray.data_extract, Array.toList_extract, List.extract_eq_take_drop, List.drop_zero, Nat.sub_zero]
        obtain ⟨xa, hxa⟩ : ∃ x, x = Crc.of (a.data.toList.take k) := ⟨_, rfl⟩
        obtain ⟨xb, hxb⟩ : ∃ x, x = Crc.of (b.data.toList.take k) := ⟨_, rfl⟩
        obtain ⟨xc, hxc⟩ : ∃ x, x = Crc.of (c.data.toList.take k) := ⟨_, rfl⟩
        have la : xa < 4294967296 := hxa ▸ Crc.of_lt _
        have lb : xb < 4294967296 := hxb ▸ Crc.of_lt _
        have lc : xc < 4294967296 := hxc ▸ Crc.of_lt _
        have hsum : Crc.of A.data.toList = xa ^^^ xb ^^^ xc := by
          rw [hAl, hxa, hxb, hxc]
          exact Crc.of_add _ _ _ (by rw [take_len a k hna, take_len b k hnb]) (by rw [take_len b k hnb, take_len c k hnc])
        have y1 := xor_nat xa xb la lb
        have y2 := xor_nat (xa ^^^ xb) xc (Nat.xor_lt_two_pow (n := 32) la lb) lc
        have ca := fun w => of_at hS (s := a.extract 0 k) (x := xa) za (by rw [ea]; exact hxa.symm) w
        have cb := fun w => of_at hS (s := b.extract 0 k) (x := xb) zb (by rw [eb]; exact hxb.symm) w
        have cc := fun w => of_at hS (s := c.extract 0 k) (x := xc) zc (by rw [ec]; exact hxc.symm) w
        have cA := fun w => of_at hS (s := A) zA hsum w
        have CA := Lib.hid cA
        have Ca := Lib.hid ca
        have Cb := Lib.hid cb
        have Cc := Lib.hid cc
        have HB := Lib.hid hbl
        clear hA hAl zA za zb zc ea eb ec hxa hxb hxc la lb lc hsum ca cb cc cA hown hbl
        go_wp2_with fail
        go_region_with
          (first
            | (go_at_call_of 11 A; refine (CA.out _).mono ?_; rintro e v1 ⟨rfl, hb⟩; have B1 := Lib.hid (HB.out.drew.trans (hb.mono HB.out.size)); clear hb)
            | (go_at_call_of 11 (a.extract 0 k); refine (Ca.out _).mono ?_; rintro e v2 ⟨rfl, hb⟩; have B2 := Lib.hid (B1.out.trans (hb.mono B1.out.size)); clear hb)
            | (go_at_call_of 11 (b.extract 0 k); refine (Cb.out _).mono ?_; rintro e v3 ⟨rfl, hb⟩; have B3 := Lib.hid (B2.out.trans (hb.mono B2.out.size)); clear hb)
            | (go_at_call_of 11 (c.extract 0 k); refine (Cc.out _).mono ?_; rintro e v4 ⟨rfl, hb⟩; have B4 := Lib.hid (B3.out.trans (hb.mono B3.out.size)); clear hb))
        go_wp2_with fail
        go_ret
        exact ⟨rfl, B4.out⟩
end

end Go.Proofs.Ytjbmfjpodddhaaa
