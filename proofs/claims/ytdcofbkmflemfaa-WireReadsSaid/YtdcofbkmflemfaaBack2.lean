/- 'dragomanlaw01.WireBack': the walk where all is small: what was written is read as it was. -/
import Derived.Test.YtdcofbkmflemfaaBack
namespace Go.Proofs.Ytdcofbkmflemfaa
open Go.RowKit

/-- What the law reads of what it has written. -/
structure Reads (S : ByteArray) (a b c all : Nat) (s rest : ByteArray) (l : List ByteArray) (x : Bool) (t1 t2 t3 t4 t5 t6 : St) : Prop where
  r1 : numF S 1 ⟨0, 0, 0⟩ = (a, t1)
  r2 : textsF S l.length all t1 = (l, t2)
  r3 : boolF S t2 = (x, t3)
  r4 : numF S 4 t3 = (b, t4)
  r5 : textF S s.size t4 = (s, t5)
  r6 : numF S 8 t5 = (c, t6)
  r7 : restF S t6 = rest
  e6 : t6.err = 0
  b6 : t6.bad = 0
  r8 : endF S t6 = (if rest.size = 0 then (0, 0) else (7, (t6.p : Int)))

theorem reads_of (a b c : Nat) (s rest : ByteArray) (l : List ByteArray) (x : Bool) (ha : a < 256) (hb : b < 4294967296) (hc : c < 256 ^ 8) (all : Nat) (hall : all = s.size + total l) (hbig : all ≤ 65536) (hl : l.length ≤ 1024) (S : ByteArray)
    (hS : S = numS 1 a ++ textsS l ++ numS 1 x.toNat ++ numS 4 b ++ textS s ++ numS 8 c ++ rest) : ∃ t1 t2 t3 t4 t5 t6, Reads S a b c all s rest l x t1 t2 t3 t4 t5 t6 := by
  obtain ⟨t1, t2, t3, t4, t5, t6, h1, h2, h3, h4, h5, h6, h7, h8, h9, h10, _⟩ := back_reads a b c s rest l x ha hb hc all hall hbig hl S hS
  exact ⟨t1, t2, t3, t4, t5, t6, ⟨h1, h2, h3, h4, h5, h6, h7, h8, h9, h10⟩⟩

theorem empty_iff (s : ByteArray) (h : s = ⟨#[]⟩) : s.toList = [] := (toList_nil_iff_emptyBytes s).2 h
theorem full_iff (s : ByteArray) (h : ¬ s.size = 0) : s.toList.isEmpty = false := by
  rw [Bool.eq_false_iff]
  intro e
  have e2 := (toList_nil_iff_emptyBytes s).1 (List.isEmpty_iff.1 e)
  rw [e2] at h
  exact h rfl

def U64' (c : Nat) : Prop := c < 256 ^ 8

set_option maxHeartbeats 4000000 in
set_option maxRecDepth 100000 in
theorem back_main (a b c : Nat) (s rest : ByteArray) (v : Value) (l : List ByteArray) (W : World) (h : Held W v l) (hl : l.length ≤ 1024) (ha : a < 256) (hb : b < 4294967296) (hc : U64' c) (hall : s.size + total l ≤ 65536) (hrest : rest.size ≤ 65536) :
    Calls Try.prog 6 #[.int .u8 a, .int .u32 b, .int .u64 c, .string s, v, .string rest] W fun e w' => e = .returned (.bool true) ∧ Below W.heap.size W w' := by
  have hIns := h.ins
  obtain ⟨ao, cap, rfl, hlm, _⟩ := h.ins
  have HC := Lib.hid (Held.cells h.ins)
  have HI := Lib.hid hIns
  have htot := total_small h.small hl
  clear h hIns
  go_enter Try.func6, Try.ntmps6
  go_wp2_with fail
  refine (works_any _).mono ?_
  rintro e w1 ⟨rfl, hb⟩
  have H1 := Lib.hid hb; clear hb
  go_wp2_with fail
  go_loop [13, 15, 28] (fun s13 _ s28 => AllRel l s.size s13 s28) (fun _ _ s28 => (l.length - intOf s28).toNat)
  case atStart => exact ⟨0, Nat.zero_le _, rfl, by simp [total]⟩
  case round =>
    obtain ⟨k, hk, rfl, rfl⟩ := hrel
    by_cases hlt : k < l.length
    · obtain ⟨bb, o, rfl, hc⟩ := HC.out w1 H1.out k hlt
      have h1 := total_take_succ l k hlt
      have h2 := total_take_le l (k + 1)
      have HT := Lib.hid h1
      obtain ⟨x, hx⟩ : ∃ x, x = l.getD k ByteArray.empty := ⟨_, rfl⟩
      rw [← hx] at hc h1
      obtain ⟨m, hm⟩ : ∃ m, m = s.size + total (l.take k) := ⟨_, rfl⟩
      have hle : m + x.size ≤ 144255925560012800 := by omega
      rw [← hm]
      have HX := Lib.hid hx
      have HM := Lib.hid hm
      clear h1 h2 hx hm
      go_wp2_with fail
      go_round
      case rel => exact ⟨k + 1, by omega, by go_num, by rw [HT.out, ← HX.out, ← Nat.add_assoc, ← HM.out]; go_num⟩
      case measure => simp [intOf]; omega
    · obtain rfl : k = l.length := by omega
      rw [List.take_length]
      have hts := textsS_size l
      obtain ⟨T, hT⟩ : ∃ T, T = textS s := ⟨_, rfl⟩
      obtain ⟨U, hU⟩ : ∃ U, U = textsS l := ⟨_, rfl⟩
      obtain ⟨n1, hn1⟩ : ∃ n, n = numS 1 a := ⟨_, rfl⟩
      obtain ⟨x, hx⟩ : ∃ x, x = ((a : Int) % 2 == 1) := ⟨_, rfl⟩
      obtain ⟨n2, hn2⟩ : ∃ n, n = numS 1 x.toNat := ⟨_, rfl⟩
      obtain ⟨n4, hn4⟩ : ∃ n, n = numS 4 b := ⟨_, rfl⟩
      obtain ⟨n8, hn8⟩ : ∃ n, n = numS 8 c := ⟨_, rfl⟩
      have zU : U.size ≤ 69636 := by rw [hU, hts]; omega
      have zT : T.size ≤ 65540 := by
        have : (textS s).size = 4 + s.size := by rw [textS, ByteArray.size_append, numS_size]
        rw [hT, this]; omega
      have z1 : n1.size = 1 := by rw [hn1, numS_size]
      have z2 : n2.size = 1 := by rw [hn2, numS_size]
      have z4 : n4.size = 4 := by rw [hn4, numS_size]
      have z8 : n8.size = 8 := by rw [hn8, numS_size]
      obtain ⟨all, hal⟩ : ∃ all, all = s.size + total l := ⟨_, rfl⟩
      obtain ⟨S, hS⟩ : ∃ S, S = n1 ++ U ++ n2 ++ n4 ++ T ++ n8 ++ rest := ⟨_, rfl⟩
      have zS : S.size ≤ 4611686018427387904 := by rw [hS]; simp only [ByteArray.size_append]; omega
      obtain ⟨t1, t2, t3, t4, t5, t6, hR⟩ := reads_of a b c s rest l x ha hb hc all hal (by omega) hl S (by rw [hS, hn1, hU, hn2, hn4, hT, hn8])
      have HR := Lib.hid hR
      have HS := Lib.hid hS
      have hx' := hx.symm
      have N1 := Lib.hid hn1
      have N2 := Lib.hid hn2
      have N4 := Lib.hid hn4
      have N8 := Lib.hid hn8
      have NT := Lib.hid hT
      have NU := Lib.hid hU
      have hle : all ≤ 65536 := by omega
      have hs : s.size ≤ 65536 := by omega
      have htl : total l ≤ 65536 := by omega
      have HC64 := Lib.hid hc
      rw [← hal]
      clear hR hS hx hn1 hn2 hn4 hn8 hT hU hts hc hal htot hall
      go_wp2_with fail
      refine (text_at (s := s) (x := T) (by omega) NT.out.symm _).mono ?_
      rintro e w2 ⟨rfl, hb2⟩
      have H2 : Hid (Below W.heap.size W w2) := Lib.hid (H1.out.trans (hb2.mono H1.out.size)); clear hb2
      go_wp2_with fail
      refine (texts_at (HI.out.below H2.out) (x := U) (by omega) (by omega) NU.out.symm).mono ?_
      rintro e w3 ⟨rfl, hb3⟩
      have H3 : Hid (Below W.heap.size W w3) := Lib.hid (H2.out.trans (hb3.mono H2.out.size)); clear hb3
      go_wp2_with fail
      refine (u8_at (n := a) (x := n1) ha N1.out.symm _).mono ?_
      rintro e w4 ⟨rfl, hb⟩
      have H4 : Hid (Below W.heap.size W w4) := Lib.hid (H3.out.trans (hb.mono H3.out.size)); clear hb
      go_wp2_with fail
      refine (bool_at (b := x) (x := n2) N2.out.symm _).mono ?_
      rintro e w5 ⟨rfl, hb⟩
      have H5 : Hid (Below W.heap.size W w5) := Lib.hid (H4.out.trans (hb.mono H4.out.size)); clear hb
      go_wp2_with fail
      refine (u32_at (n := b) (x := n4) hb N4.out.symm _).mono ?_
      rintro e w6 ⟨rfl, hb⟩
      have H6 : Hid (Below W.heap.size W w6) := Lib.hid (H5.out.trans (hb.mono H5.out.size)); clear hb
      go_wp2_with fail
      refine (u64_at (n := c) (x := n8) N8.out.symm _).mono ?_
      rintro e w7 ⟨rfl, hb⟩
      have H7 : Hid (Below W.heap.size W w7) := Lib.hid (H6.out.trans (hb.mono H6.out.size)); clear hb
      go_wp2_with fail
      rw [← HS.out]
      refine (own_new (W := W) S zS H7.out).mono ?_
      rintro e w8 ⟨rfl, ho, _⟩
      have O8 := Lib.hid ho; clear ho
      go_wp2_with fail
      refine (own_u8 O8.out HR.out.r1).mono ?_
      rintro e w9 ⟨rfl, ho, _⟩
      have O9 := Lib.hid ho; clear ho
      go_wp2_with fail
      refine (own_texts O9.out HR.out.r2).mono ?_
      rintro e w10 ⟨v2, rfl, hv2, ho, _⟩
      have V2 := Lib.hid hv2.ins; clear hv2
      have O10 := Lib.hid ho; clear ho
      go_wp2_with fail
      refine (equal_any V2.out (HI.out.below O10.out.below)).mono ?_
      rintro e w11 ⟨rfl, hb⟩
      have O11 := Lib.hid (O10.out.stay hb); clear hb
      go_wp2_with fail
      refine (own_bool O11.out HR.out.r3).mono ?_
      rintro e w12 ⟨rfl, ho, _⟩
      have O12 := Lib.hid ho; clear ho
      go_wp2_with fail
      refine (own_u32 O12.out HR.out.r4).mono ?_
      rintro e w13 ⟨rfl, ho, _⟩
      have O13 := Lib.hid ho; clear ho
      go_wp2_with fail
      refine (own_text O13.out HR.out.r5).mono ?_
      rintro e w14 ⟨rfl, ho, _⟩
      have O14 := Lib.hid ho; clear ho
      go_wp2_with fail
      refine (own_u64 O14.out HR.out.r6).mono ?_
      rintro e w15 ⟨rfl, ho, _⟩
      have O15 := Lib.hid ho; clear ho
      go_wp2_with fail
      refine (own_fault O15.out).mono ?_
      rw [HR.out.e6, HR.out.b6]
      rintro e w16 ⟨rfl, ho, _⟩
      have O16 := Lib.hid ho; clear ho
      go_wp2_with fail
      refine (own_rest O16.out HR.out.r7).mono ?_
      rintro e w17 ⟨rfl, ho, _⟩
      have O17 := Lib.hid ho; clear ho
      go_wp2_with fail
      by_cases hr0 : rest.size = 0
      · have hre : rest = ⟨#[]⟩ := by apply ByteArray.ext; exact Array.eq_empty_of_size_eq_zero hr0
        have he := HR.out.r8
        rw [if_pos hr0] at he
        have HE := Lib.hid he; clear he hr0
        have hre2 : rest.toList.isEmpty = true := by rw [empty_iff rest hre]; rfl
        have hre3 : rest.toList = [] := empty_iff rest hre
        clear hre
        refine (own_end O17.out HE.out).mono ?_
        rintro e w18 ⟨rfl, ho, _⟩
        have O18 := Lib.hid ho; clear ho
        go_wp2_with fail
        go_ret
        exact ⟨rfl, O18.out.below⟩
      · have he := HR.out.r8
        rw [if_neg hr0] at he
        have HE := Lib.hid he; clear he
        have hre2 : rest.toList.isEmpty = false := full_iff rest hr0
        clear hr0
        refine (own_end O17.out HE.out).mono ?_
        rintro e w18 ⟨rfl, ho, _⟩
        have O18 := Lib.hid ho; clear ho
        go_wp2_with fail
        go_ret
        exact ⟨rfl, O18.out.below⟩

end Go.Proofs.Ytdcofbkmflemfaa
