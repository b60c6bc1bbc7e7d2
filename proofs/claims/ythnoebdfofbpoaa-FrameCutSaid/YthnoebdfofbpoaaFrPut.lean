/- The frames of payloads, put one behind the other: the law's own put. -/
import Derived.Test.YthnoebdfofbpoaaCatPure
import Derived.Test.YthnoebdfofbpoaaFrLaws
import Derived.Test.YthnoebdfofbpoaaOpenS
namespace Go.Proofs.Ythnoebdfofbpoaa
open Go.RowKit

theorem Try.infoInt : (Try.prog.info? 3).map (fun i => (i.zero, i.size, i.bytes)) = some (some (.int .i64 0), 1, 8) := by kernel_rfl

/-- Where the first frames end. -/
def endsV (l : List ByteArray) (k : Nat) : List Value := (List.range k).map fun j => .int .i64 ((catS (l.take (j + 1))).size : Nat)

theorem endsV_succ (l : List ByteArray) (k : Nat) : endsV l (k + 1) = endsV l k ++ [.int .i64 ((catS (l.take (k + 1))).size : Nat)] := by
  unfold endsV
  rw [List.range_succ, List.map_append]
  rfl

theorem ownsRow_slc {w : World} {b : Nat} {e : TypeId} {size : Nat} {v : Value} {n : Nat} {xs : List Value} (h : w.ownsRow b e size v n xs) : ∃ a cap, v = .slice a n cap := by
  rcases h.2 with ⟨rfl, rfl⟩ | ⟨g, cap, cur, rfl, _⟩
  · exact ⟨none, 0, rfl⟩
  · exact ⟨_, cap, rfl⟩

theorem ownsRow_under {B : Nat} {e : TypeId} {k : Nat} {v : Value} {n : Nat} {xs : List Value} {w w' : World} (h : w.ownsRow B e k v n xs) (hb : Below w.heap.size w w') : w'.ownsRow B e k v n xs :=
  h.kept (row := none) ⟨hb.os, hb.tape, hb.output, hb.size, fun j hj _ => hb.block j hj⟩ (by cases hv : v.ownBlock <;> simp)

theorem all_take_succ {l : List ByteArray} {k : Nat} (hlt : k < l.length) (h : ∀ q ∈ l.take k, q.size ≤ 4096) (hk : l[k].size ≤ 4096) : ∀ q ∈ l.take (k + 1), q.size ≤ 4096 := by
  intro q hq
  rw [List.take_succ_eq_append_getElem hlt, List.mem_append] at hq
  rcases hq with hq | hq
  · exact h q hq
  · rw [List.mem_singleton] at hq
    rw [hq]; exact hk

set_option maxHeartbeats 1000000 in
set_option maxRecDepth 100000 in
theorem lawPut_any (v : Value) (l : List ByteArray) (w : World) (h : Held w v l) :
    Calls Try.prog 17 #[v] w fun e w' => Below w.heap.size w w' ∧ (e = .returned (.tuple #[.string ⟨#[]⟩, .slice none 0 0, .bool false]) ∨
      ∃ u, e = .returned (.tuple #[.string (catS l), u, .bool true]) ∧ w'.ownsRow w.heap.size 3 1 u l.length (endsV l l.length) ∧ (∀ q ∈ l, q.size ≤ 4096) ∧ (catS l).size ≤ 65536) := by
  obtain ⟨i0, hi, hz0, hz1, hz2⟩ := info_parts Try.infoInt
  obtain ⟨hins, hroom, hsmall, a, cap, rfl, hcap⟩ := h
  have HC := Lib.hid (Held.cells hins)
  have HS := Lib.hid hsmall
  clear hins hsmall hcap
  go_enter Try.func17, Try.ntmps17
  go_wp2_with fail
  go_loopw [5, 6, 13] (fun s5 s6 s13 wr => ∃ k : Nat, k ≤ l.length ∧ s13 = .int .i64 k ∧ s5 = .string (catS (l.take k)) ∧ wr.ownsRow w.heap.size 3 1 s6 k (endsV l k) ∧ (∀ q ∈ l.take k, q.size ≤ 4096) ∧ (catS (l.take k)).size ≤ 36876 ∧ k ≤ 60 ∧ Below w.heap.size w wr)
    (fun _ _ s13 _ => (l.length - intOf s13).toNat)
  case atStart => exact ⟨0, Nat.zero_le _, rfl, rfl, World.ownsRow_nil _ _ _ _, by simp, by rw [List.take_zero]; decide, by omega, Below.refl _ _⟩
  case round =>
    obtain ⟨k, hk, rfl, rfl, hown, hq, hz, h60, hB⟩ := hrel
    have HB := Lib.hid hB; have HQ := Lib.hid hq; have HO := Lib.hid hown
    clear hB hq hown
    by_cases hlt : k < l.length
    · obtain ⟨b, o, rfl, hcell⟩ := HC.out wr HB.out k hlt
      have hget : l.getD k ByteArray.empty = l[k] := by simp [List.getD, hlt]
      rw [hget] at hcell
      obtain ⟨p, hp⟩ : ∃ p, p = l[k] := ⟨_, rfl⟩
      obtain ⟨S, hS⟩ : ∃ S, S = catS (l.take k) := ⟨_, rfl⟩
      rw [← hp] at hcell
      rw [← hS] at hz ⊢
      have HPP := Lib.hid hp; have HSS := Lib.hid hS
      clear hp hS hget
      by_cases hbig : 4096 < p.size
      · go_wp2_with fail
        refine (put_no p hbig _).mono ?_
        rintro e w2 ⟨rfl, hb⟩
        have B2 := Lib.hid (HB.out.trans (hb.mono HB.out.size)); clear hb
        go_wp2_with fail
        go_ret3
        exact ⟨B2.out, .inl rfl⟩
      · have hps : p.size ≤ 4096 := by omega
        have hns := catS_succ l k hlt
        rw [← HPP.out, ← HSS.out] at hns
        have hfz := frameS_size p
        have c1 := fun w => put_ok p hps w
        have hnz : (catS (l.take (k + 1))).size = S.size + (frameS p).size := by rw [hns, ByteArray.size_append]
        have HN := Lib.hid hns; have C1 := Lib.hid c1
        have HT := Lib.hid (all_take_succ hlt HQ.out (by rw [← HPP.out]; exact hps))
        clear hns c1 HPP HSS
        obtain ⟨f, hf⟩ : ∃ f, f = frameS p := ⟨_, rfl⟩
        rw [← hf] at HN C1 hfz hnz
        have hfl : f.size ≤ 4108 := by omega
        have HNZ := Lib.hid hnz
        clear hf hfz hnz
        by_cases hgo : S.size ≤ 32768 ∧ l.length ≤ 60
        · obtain ⟨hg1, hg2⟩ := hgo
          go_wp2_with fail
          refine (C1.out _).mono ?_
          rintro e w2 ⟨rfl, hb⟩
          have B2 := Lib.hid (HB.out.trans (hb.mono HB.out.size))
          have hown := ownsRow_under HO.out hb
          clear hb
          have hz4 : w.heap.size ≤ (w2.alloc (.cells #[.int .i64 ((S.size : Int) + (f.size : Int))] 3)).heap.size := by have := B2.out.size; simp; omega
          have ha1 : k + 1 ≤ maxLen := by unfold maxLen; omega
          have ha2 : (k + 1) * 8 ≤ 140737488355328 := by omega
          have HZ4 := Lib.hid hz4; have HA1 := Lib.hid ha1; have HA2 := Lib.hid ha2; have HOW := Lib.hid hown
          clear hz4 ha1 ha2 hown HO
          go_wp2_with (at_builtin; go_loud (refine wpList_append_own _ rfl (.tmp 37) (.tmp 40) 41 rfl w.heap.size 3 i0 (.int .i64 0) 1 8 Try.underlying41 hi hz0 hz1 hz2 rfl (by decide) _ _ _ rfl (HOW.out.alloc _) ⟨w2.heap.size, 0, none⟩ 1 1 [.int .i64 ((S.size : Int) + (f.size : Int))] rfl rfl (cell_one_new _ _ _) (by simp [Value.oneCell']) HA1.out HA2.out HZ4.out ?_; intro v' w3 hown' hgrow _))
          have B3 : Hid (Below w.heap.size w w3) := Lib.hid ((B2.out.alloc B2.out.size _).grown hgrow (by have := B2.out.size; simp; omega) (fun j hj => (HOW.out.lt j hj).1))
          go_roundw
          case rel => exact ⟨k + 1, by omega, by go_num, by rw [HN.out], by rw [endsV_succ, HNZ.out, Int.natCast_add]; exact hown', HT.out, by rw [HNZ.out]; omega, by omega, B3.out⟩
          case measure => simp [intOf]; omega
        · have hno : 32768 < S.size ∨ 60 < l.length := by omega
          clear hgo
          rcases hno with h1 | h1
          · go_wp2_with fail
            refine (C1.out _).mono ?_
            rintro e w2 ⟨rfl, hb⟩
            have B2 := Lib.hid (HB.out.trans (hb.mono HB.out.size)); clear hb
            go_wp2_with fail
            go_ret3
            exact ⟨B2.out, .inl rfl⟩
          · by_cases h2 : 32768 < S.size
            · go_wp2_with fail
              refine (C1.out _).mono ?_
              rintro e w2 ⟨rfl, hb⟩
              have B2 := Lib.hid (HB.out.trans (hb.mono HB.out.size)); clear hb
              go_wp2_with fail
              go_ret3
              exact ⟨B2.out, .inl rfl⟩
            · go_wp2_with fail
              refine (C1.out _).mono ?_
              rintro e w2 ⟨rfl, hb⟩
              have B2 := Lib.hid (HB.out.trans (hb.mono HB.out.size)); clear hb
              go_wp2_with fail
              go_ret3
              exact ⟨B2.out, .inl rfl⟩
    · obtain rfl : k = l.length := by omega
      rw [List.take_length] at hz HQ ⊢
      obtain ⟨ua, uc, rfl⟩ := ownsRow_slc HO.out
      clear hlt hk
      go_wp2_with fail
      go_ret3
      exact ⟨HB.out, .inr ⟨_, rfl, HO.out, HQ.out, by omega⟩⟩

end Go.Proofs.Ythnoebdfofbpoaa
