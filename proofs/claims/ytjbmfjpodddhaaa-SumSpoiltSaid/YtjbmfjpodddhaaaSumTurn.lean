/- SumSpoilt: bits that are turned over within 32. -/
import Derived.Test.YtjbmfjpodddhaaaSumAdd
import Derived.Test.YtjbmfjpodddhaaaSumSpoil
import Derived.Test.YtjbmfjpodddhaaaMark
namespace Go.Proofs.Ytjbmfjpodddhaaa
open Go.RowKit

/-- The bytes L at the head of block G, of which no cell within C is frozen. -/
def BytesAt (w : World) (G C : Nat) (L : List UInt8) : Prop :=
  ∃ cur fz, w.heap[G]? = some (.cells cur 5 fz) ∧ (∀ j, j < C → ¬ (fz.1 ≤ j ∧ j < fz.2)) ∧ L.length ≤ C ∧ C ≤ maxLen ∧ cur.size = C ∧ cur.toList.take L.length = Lib.byteCells L

theorem BytesAt.own {w : World} {G C B : Nat} {L : List UInt8} (h : BytesAt w G C L) (hB : B ≤ G) : OwnB w B 5 (.slice (some ⟨G, 0, none⟩) L.length C) L := by
  obtain ⟨cur, fz, h1, h2, h3, h4, h5, h6⟩ := h
  exact ⟨G, C, cur, fz, rfl, hB, h1, h2, h3, h4, h5, h6⟩

theorem BytesAt.cell {w : World} {G C : Nat} {L : List UInt8} (h : BytesAt w G C L) (i : Nat) (hi : i < L.length) : w.cell? ⟨G, i, none⟩ = some (.int .u8 (L[i].toNat : Nat)) := by
  obtain ⟨cur, fz, h1, _, h3, _, h5, h6⟩ := h
  rw [cell_row h1]
  have e1 : cur[i]? = cur.toList[i]? := by simp
  have e2 : (cur.toList.take L.length)[i]? = cur.toList[i]? := by rw [List.getElem?_take]; simp [hi]
  rw [e1, ← e2, h6]
  simp [Lib.byteCells, List.getElem?_eq_getElem hi]

theorem BytesAt.thaw {w : World} {G C : Nat} {L : List UInt8} (h : BytesAt w G C L) (i : Nat) (hi : i < L.length) : w.frozen? ⟨G, i, none⟩ = false := by
  obtain ⟨cur, fz, h1, h2, h3, _⟩ := h
  have := h2 i (by omega)
  obtain ⟨a, b⟩ := fz
  simp only [World.frozen?, h1, Bool.and_eq_false_iff, decide_eq_false_iff_not]
  simp only at this
  omega

theorem BytesAt.drew {w : World} {G C : Nat} {L : List UInt8} (h : BytesAt w G C L) : BytesAt w.drew G C L := h

theorem BytesAt.set {w : World} {G C : Nat} {L : List UInt8} (h : BytesAt w G C L) (i : Nat) (x : UInt8) : BytesAt (w.setCell ⟨G, i, none⟩ (.int .u8 (x.toNat : Nat))) G C (L.set i x) := by
  obtain ⟨cur, fz, h1, h2, h3, h4, h5, h6⟩ := h
  refine ⟨cur.setIfInBounds i (.int .u8 (x.toNat : Nat)), fz, ?_, h2, by simpa using h3, h4, by simpa using h5, ?_⟩
  · simp [World.setCell, Array.getElem?_modify, h1]
  · rw [List.length_set, Array.toList_setIfInBounds, List.take_set, h6]
    simp [Lib.byteCells, List.map_set]

theorem and_one (x : Nat) (hx : x < 4294967296) : bits BinOp.and IntKind.u32 (x : Int) 1 = ((x % 2 : Nat) : Int) := by
  have h1 : (BitVec.ofInt 32 (x : Int)).toNat = x := by
    rw [BitVec.ofInt_natCast, BitVec.toNat_ofNat]; exact Nat.mod_eq_of_lt (by omega)
  have h2 : (BitVec.ofInt 32 (1 : Int)).toNat = 1 := by decide
  show IntKind.u32.wrap ((BitVec.ofInt 32 (x : Int) &&& BitVec.ofInt 32 1).toNat : Int) = _
  rw [BitVec.toNat_and, h1, h2, IntKind.wrap_u32, Nat.and_one_is_mod]
  omega

section
variable (hS : SumSaid)
include hS

set_option maxHeartbeats 1000000 in
theorem sumSpoilt_any (s : ByteArray) (z : Int) (y : Nat) (hy : y < 4294967296) (hs : s.size ≤ 140737488351232) (w : World) :
    Calls Try.prog 8 #[.string s, .int .i64 z, .int .u32 y] w fun e w' => e = .returned (.bool true) ∧ Below w.heap.size w w' := by
  by_cases hbig : 3000 < s.size
  · go_enter Try.func8, Try.ntmps8
    go_wp2_with fail
    refine (sumWorks hS _).mono ?_
    rintro e w1 ⟨rfl, hb1⟩
    have H1 := Lib.hid hb1; clear hb1
    go_wp2_with fail
    go_ret
    exact ⟨rfl, H1.out⟩
  · have d0 : decide ((3000 : Int) < (s.size : Int)) = false := decide_eq_false (by omega)
    by_cases hz : z < 0
    · go_enter Try.func8, Try.ntmps8
      go_wp2_with fail
      refine (sumWorks hS _).mono ?_
      rintro e w1 ⟨rfl, hb1⟩
      have H1 := Lib.hid hb1; clear hb1
      go_wp2_with fail
      go_ret
      exact ⟨rfl, H1.out⟩
    · obtain ⟨p, rfl⟩ := Int.eq_ofNat_of_zero_le (show 0 ≤ z by omega)
      clear hz
      by_cases hp : 8 * s.size ≤ p
      · have hp2 : 8 * (s.size : Int) ≤ (p : Int) := by omega
        go_enter Try.func8, Try.ntmps8
        go_wp2_with fail
        refine (sumWorks hS _).mono ?_
        rintro e w1 ⟨rfl, hb1⟩
        have H1 := Lib.hid hb1; clear hb1
        go_wp2_with fail
        go_ret
        exact ⟨rfl, H1.out⟩
      · have hp2 : (p : Int) < 8 * (s.size : Int) := by omega
        have hpl : p < 8 * s.size := by omega
        have hdd : decide (8 * (s.size : Int) ≤ (p : Int)) = false := decide_eq_false (by omega)
        have hs3 : s.size ≤ 3000 := by omega
        clear hp hbig
        go_enter Try.func8, Try.ntmps8
        go_wp2_with fail
        refine (sumWorks hS _).mono ?_
        rintro e w1 ⟨rfl, hb1⟩
        have hcv := run_bytes_of_string (P := Try.prog) w1 9 33 5 s Try.underlying9 Try.underlying33 Try.underlying5
        have hB : BytesAt (w1.drew.alloc (.cells (bytesRow s (grownCap w1 s.size 0 5)) 5 ((bytesRow s (grownCap w1 s.size 0 5)).size, (bytesRow s (grownCap w1 s.size 0 5)).size + 1))) w1.heap.size (grownCap w1 s.size 0 5) s.data.toList := by
          obtain ⟨g, cap, cur, fz, hv, _, r⟩ := ownB_made w1 w.heap.size 5 s hb1.size (by omega)
          simp only [Value.slice.injEq, Option.some.injEq, Addr.mk.injEq] at hv
          obtain ⟨⟨rfl, _⟩, _, rfl⟩ := hv
          exact ⟨cur, fz, r⟩
        have hW : Below w.heap.size w (w1.drew.alloc (.cells (bytesRow s (grownCap w1 s.size 0 5)) 5 ((bytesRow s (grownCap w1 s.size 0 5)).size, (bytesRow s (grownCap w1 s.size 0 5)).size + 1))) :=
          (hb1.drew).alloc hb1.size _
        generalize (w1.drew.alloc (.cells (bytesRow s (grownCap w1 s.size 0 5)) 5 ((bytesRow s (grownCap w1 s.size 0 5)).size, (bytesRow s (grownCap w1 s.size 0 5)).size + 1))) = w2 at hcv hB hW
        have hG : w.heap.size ≤ w1.heap.size := hb1.size
        generalize grownCap w1 s.size 0 5 = C at hcv hB
        generalize w1.heap.size = G at hcv hB hG
        have HB := Lib.hid hB; clear hB
        have HW := Lib.hid hW; clear hW hb1
        go_wp2_with fail
        clear hcv
        go_loopw [8, 9] (fun s8 s9 wr => ∃ (k : Nat) (L : List UInt8), k ≤ 32 ∧ p + k ≤ 8 * s.size ∧ s9 = .int .i64 k ∧ s8 = .bool (Crc.any1 y k) ∧ (BytesAt wr G C L ∧ Crc.Turned s.data.toList L p y k ∧ Below w.heap.size w wr)) (fun _ s9 _ => (32 - intOf s9).toNat)
        case atStart => exact ⟨0, s.data.toList, by omega, by omega, rfl, rfl, HB.out, Crc.Turned.zero _ _ _, HW.out⟩
        case round =>
          clear HB HW
          obtain ⟨k, L, hk, hpk, rfl, rfl, hK⟩ := hrel
          have K := Lib.hid hK; clear hK
          by_cases h1 : k < 32 ∧ p + k < 8 * s.size
          · obtain ⟨hk32, hpk8⟩ := h1
            have hpi : (p : Int) + (k : Int) < 8 * (s.size : Int) := by omega
            have hL : L.length = s.size := by rw [K.out.2.1.1]; simp
            have hbit := and_one (y / 2 ^ k) (Nat.lt_of_le_of_lt (Nat.div_le_self _ _) hy)
            rw [show ((y / 2 ^ k : Nat) : Int) = (y : Int) / 2 ^ k from by simp] at hbit
            by_cases hb : y / 2 ^ k % 2 = 1
            · rw [hb] at hbit
              have ha1 : Crc.any1 y (k + 1) = true := by simp [Crc.any1, hb]
              have il : (p + k) / 8 < L.length := by omega
              have c0 := K.out.1.cell ((p + k) / 8) il
              have f0 := K.out.1.thaw ((p + k) / 8) il
              have ii : ((p : Int) + (k : Int)) / 8 < (s.size : Int) := by omega
              obtain ⟨u, hu⟩ : ∃ u, u = L[(p + k) / 8]'il := ⟨_, rfl⟩
              rw [← hu] at c0
              have hgd : L.getD ((p + k) / 8) 0 = u := by rw [hu, List.getD, List.getElem?_eq_getElem il]; rfl
              have HL := Lib.hid hL; have HB := Lib.hid hb; have HA := Lib.hid ha1; have HU := Lib.hid hgd
              clear hL hb ha1 hu hgd il
              go_wp2_with fail
              go_region
              go_wp2_with fail
              have hm : (2 : Nat) ^ ((p + k) % 8) < 256 := by
                have : (p + k) % 8 < 8 := Nat.mod_lt _ (by omega)
                calc 2 ^ ((p + k) % 8) < 2 ^ 8 := Nat.pow_lt_pow_right (by omega) this
                  _ = 256 := by decide
              have hmt : (UInt8.ofNat (2 ^ ((p + k) % 8))).toNat = 2 ^ ((p + k) % 8) := by rw [UInt8.toNat_ofNat']; exact Nat.mod_eq_of_lt hm
              have hx := xor8 u (UInt8.ofNat (2 ^ ((p + k) % 8)))
              rw [hmt] at hx
              have hcast : ((2 ^ ((p + k) % 8) : Nat) : Int) = (2 : Int) ^ ((p + k) % 8) % 256 := by
                rw [Int.natCast_pow, show ((2 : Nat) : Int) = 2 from rfl]
                have h1 : ((2 : Int) ^ ((p + k) % 8)) = ((2 ^ ((p + k) % 8) : Nat) : Int) := by rw [Int.natCast_pow]; rfl
                rw [h1]
                omega
              rw [hcast] at hx
              have ht := K.out.2.1.flip HB.out (u ^^^ UInt8.ofNat (2 ^ ((p + k) % 8))) (by rw [UInt8.toNat_xor, hmt, HU.out])
              refine ⟨⟨k + 1, L.set ((p + k) / 8) (u ^^^ UInt8.ofNat (2 ^ ((p + k) % 8))), by omega, by omega, by go_num, by rw [HA.out], ?_, ht, ?_⟩, by simp [intOf]; omega⟩
              · rw [hx]; exact (K.out.1.set ((p + k) / 8) _).drew
              · exact (K.out.2.2.setCell (p := ⟨G, (p + k) / 8, none⟩) hG _).drew
            · have hb0 : y / 2 ^ k % 2 = 0 := by omega
              rw [hb0] at hbit
              have ha1 : Crc.any1 y (k + 1) = Crc.any1 y k := by simp [Crc.any1, hb0]
              have HA := Lib.hid ha1; have HB := Lib.hid hb0
              clear ha1 hb hb0 hL
              go_wp2_with fail
              go_roundw
              case rel => exact ⟨k + 1, L, by omega, by omega, by go_num, by rw [HA.out], K.out.1, K.out.2.1.skip HB.out, K.out.2.2⟩
              case measure => simp [intOf]; omega
          · have hL : L.length = s.size := by rw [K.out.2.1.1]; simp
            have hown := K.out.1.own hG
            rw [hL] at hown
            have hcv := string_B (P := Try.prog) wr 33 9 5 Try.underlying33 Try.underlying5 Try.underlying9 (K.out.1.own hG)
            rw [hL] at hcv
            have hsum := K.out.2.1.sums hk (by simpa using hpk)
            obtain ⟨A, hA⟩ : ∃ A : ByteArray, A = ⟨L.toArray⟩ := ⟨_, rfl⟩
            rw [← hA] at hcv
            have hAl : A.data.toList = L := by rw [hA]
            have zA : A.size ≤ 1048576 := by
              have : A.size = L.length := by rw [hA]; rfl
              omega
            obtain ⟨xl, hxl⟩ : ∃ x, x = Crc.of L := ⟨_, rfl⟩
            obtain ⟨xs, hxs⟩ : ∃ x, x = Crc.of s.data.toList := ⟨_, rfl⟩
            have cl := fun w => of_at hS (s := A) (x := xl) zA (by rw [hAl]; exact hxl.symm) w
            have cs := fun w => of_at hS (s := s) (x := xs) (by omega) hxs.symm w
            have hfin : (Crc.any1 y k == ((xl : Int) != (xs : Int))) = true := by
              rw [← hxl, ← hxs] at hsum
              rw [beq_iff_eq]
              cases hb : Crc.any1 y k with
              | false =>
                have := hsum.2 hb
                subst this
                simp
              | true =>
                have hne : xl ≠ xs := fun h => by have := hsum.1 h; rw [hb] at this; cases this
                symm
                rw [bne_iff_ne]
                omega
            have CL := Lib.hid cl; have CS := Lib.hid cs; have KB := Lib.hid K.out.2.2
            generalize Crc.any1 y k = tb at hfin ⊢
            clear cl cs hsum hxl hxs hAl hA hown K
            by_cases hk32 : k = 32
            · subst hk32
              clear h1
              go_wp2_with fail
              refine (CL.out _).mono ?_
              rintro e y1 ⟨rfl, hb⟩
              have B1 := Lib.hid (KB.out.trans (hb.mono KB.out.size)); clear hb
              go_wp2_with fail
              refine (CS.out _).mono ?_
              rintro e y2 ⟨rfl, hb⟩
              have B2 := Lib.hid (B1.out.trans (hb.mono B1.out.size)); clear hb
              go_wp2_with fail
              go_ret
              exact ⟨by rw [← hfin]; rfl, B2.out⟩
            · have hk2 : (k : Int) < 32 := by omega
              have hge : decide ((p : Int) + (k : Int) < 8 * (s.size : Int)) = false := decide_eq_false (by omega)
              clear h1 hk32
              go_wp2_with fail
              refine (CL.out _).mono ?_
              rintro e y1 ⟨rfl, hb⟩
              have B1 := Lib.hid (KB.out.trans (hb.mono KB.out.size)); clear hb
              go_wp2_with fail
              refine (CS.out _).mono ?_
              rintro e y2 ⟨rfl, hb⟩
              have B2 := Lib.hid (B1.out.trans (hb.mono B1.out.size)); clear hb
              go_wp2_with fail
              go_ret
              exact ⟨by rw [← hfin]; rfl, B2.out⟩
end

end Go.Proofs.Ytjbmfjpodddhaaa
