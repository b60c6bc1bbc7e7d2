/- Nets: a letter is found; Send, Deliver and so on. -/
import Derived.Test.YthdkfofkghpmcaaFb
namespace Go.Proofs.Ythdkfofkghpmcaa
open Go.RowKit Abs
def cmpI (a b : Int) : Int := if a < b then -1 else if a > b then 1 else 0
section
variable {lo : Nat → Prop} {n d nb mb : Nat} {h h' : AHeap} {fv v : AV} {s : NS} {ls : List Lt}
theorem isNaN_w (a : Int) : world n (d + 1) 47 [.int .i64 a] h = some (.ret (.bool false), h) := by
  apply Wp.eq
  rw [w_cmp_isNaN_int_]
  refine Wp.gc ?_
  suffices hK : Wp (cmp_isNaN_int_ (world n d) n a h) fun r h' => r = .ret (.bool false) ∧ h' = h from hK.mono fun r h' ⟨e, t⟩ => ⟨by rw [t]; exact (Tch.refl [] h).above, by rw [e]; rfl, e, rfl⟩
  unfold cmp_isNaN_int_
  refine Wp.lett (Wp.ret ⟨?_, rfl⟩)
  rw [bne_f rfl]
theorem compare_w (a b : Int) : world n (d + 2) 46 [.int .i64 a, .int .i64 b] h = some (.ret (.int .i64 (cmpI a b)), h) := by
  apply Wp.eq
  rw [w_cmp_Compare_int_]
  refine Wp.gc ?_
  suffices hK : Wp (cmp_Compare_int_ (world n (d + 1)) n a b h) fun r h' => r = .ret (.int .i64 (cmpI a b)) ∧ h' = h from hK.mono fun r h' ⟨e, t⟩ => ⟨by rw [t]; exact (Tch.refl [] h).above, by rw [e]; rfl, e, rfl⟩
  unfold cmp_Compare_int_
  refine Wp.callN (isNaN_w a) (Wp.obind (avBool_bool _) (Wp.callN (isNaN_w b) (Wp.obind (avBool_bool _) (Wp.iff rfl (Wp.iff rfl (Wp.lett ?_))))))
  unfold cmpI
  by_cases h1 : a < b
  · rw [if_pos h1]
    exact Wp.ift (decide_eq_true h1) (Wp.ret ⟨rfl, rfl⟩)
  · rw [if_neg h1]
    refine Wp.iff (decide_eq_false h1) (Wp.lett ?_)
    by_cases h2 : a > b
    · rw [if_pos h2]
      exact Wp.ift (decide_eq_true h2) (Wp.ret ⟨rfl, rfl⟩)
    · rw [if_neg h2]
      exact Wp.iff (decide_eq_false h2) (Wp.ret ⟨rfl, rfl⟩)
theorem find1_w (l : Lt) (z : Int) : world n (d + 3) 45 [.agg (letC l), .int .i64 z] h = some (.ret (.int .i64 (cmpI l.id z)), h) := by
  apply Wp.eq
  rw [w_net_Net_find_1]
  refine Wp.gc ?_
  suffices hK : Wp (net_Net_find_1 (world n (d + 2)) n (letC l) z h) fun r h' => r = .ret (.int .i64 (cmpI l.id z)) ∧ Tch [] h h' from hK.mono fun r h' ⟨e, t⟩ => ⟨t.above, by rw [e]; rfl, e, rfl⟩
  unfold net_Net_find_1
  refine Wp.mbox (Mem.nil [] h) rfl fun h2 M2 => Wp.obind (fldP_ptr _ _ _) (Wp.ld0 M2 (show (letC l)[0]? = some (.int .i64 l.id) from rfl) (Wp.obind (avInt_int _ _) ?_))
  refine Wp.callN (compare_w l.id z) (Wp.obind (avInt_int _ _) ?_)
  exact Wp.ret ⟨rfl, M2.tch⟩
theorem dynF (call : CallF) (l : Lt) (z : Int) (h : AHeap) : dynC Try.prog call (AV.fn 45 [] []) [.agg (letC l), .int .i64 z] h = call 45 [.agg (letC l), .int .i64 z] h := by
  have e : callV Try.prog h [.agg (letC l), .int .i64 z] (some (AV.fn 45 [] [])) = some (.call 45 [.agg (letC l), .int .i64 z], h) := by kernel_rfl
  unfold dynC
  rw [e]
theorem half (a b : Nat) : shrI .u64 (((a + b : Nat) : Int)) 1 = some (((a + b) / 2 : Nat) : Int) := by
  rw [show shrI .u64 ((a + b : Nat) : Int) 1 = some (((a + b : Nat) : Int).fdiv 2) from rfl, Int.fdiv_eq_ediv_of_nonneg _ (by decide)]
  congr 1
/-- where it stands, or would -/
def AtI (ls : List Lt) (z : Int) (k : Nat) : Prop := (∀ i (hi : i < ls.length), i < k → ls[i].id < z) ∧ (∀ i (hi : i < ls.length), k ≤ i → z ≤ ls[i].id)
theorem bs_loop (k : LAt h v ls) (hs : ls.Pairwise fun x y => x.id < y.id) (hl : ls.length ≤ 256) {z : Int} {k7 : Int → AHeap → R} {Q : ARes → AHeap → Prop} (hk : ∀ a : Nat, a ≤ ls.length → AtI ls z a → Wp (k7 (a : Int) h) Q) :
    ∀ (fu a b : Nat), b - a < fu → a ≤ b → b ≤ ls.length → (∀ i (hi : i < ls.length), i < a → ls[i].id < z) → (∀ i (hi : i < ls.length), b ≤ i → z ≤ ls[i].id) → Wp (slices_BinarySearchFunc___api_Letter_api_Letter_int__L0 (world n (d + 3)) v z (AV.fn 45 [] []) k7 fu (a : Int) (b : Int) h) Q
  | 0, _, _, h, _, _, _, _ => absurd h (Nat.not_lt_zero _)
  | fu + 1, a, b, hf, hab, hb, h1, h2 => by
    rw [slices_BinarySearchFunc___api_Letter_api_Letter_int__L0_s]
    unfold slices_BinarySearchFunc___api_Letter_api_Letter_int__L0b
    by_cases h0 : a < b
    · have hm : (a + b) / 2 < ls.length := by omega
      obtain ⟨p, i1, r1⟩ := k.row hm
      refine Wp.lett (Wp.ift (by rw [decide_eq_true_eq]; omega) ?_)
      refine Wp.lettw (by omega) (by omega) (Wp.lettu64 (by omega) (by omega) ?_)
      rw [show (a : Int) + (b : Int) = ((a + b : Nat) : Int) by omega]
      refine Wp.obind (half a b) (Wp.lettw (by omega) (by omega) (Wp.obind i1 (Wp.obind r1 ?_)))
      rw [dynF]
      refine Wp.callN (find1_w _ _) (Wp.obind (avInt_int _ _) (Wp.lett (Wp.lettG fun k40 e40 => ?_)))
      have mono : ∀ i j (hi : i < ls.length) (hj : j < ls.length), i < j → ls[i].id < ls[j].id := fun i j hi hj hij => List.pairwise_iff_getElem.1 hs i j hi hj hij
      by_cases hc : ls[(a + b) / 2].id < z
      · have e : cmpI ls[(a + b) / 2].id z = -1 := if_pos hc
        rw [e]
        refine Wp.ift rfl (Wp.lettw (by omega) (by omega) ?_)
        rw [e40, show (((a + b) / 2 : Nat) : Int) + 1 = (((a + b) / 2 + 1 : Nat) : Int) by omega]
        refine bs_loop k hs hl hk fu ((a + b) / 2 + 1) b (by omega) (by omega) hb (fun i hi hlt => ?_) h2
        by_cases hie : i = (a + b) / 2
        · subst hie
          exact hc
        · exact Int.lt_trans (mono i ((a + b) / 2) hi hm (by omega)) hc
      · have e : ¬ cmpI ls[(a + b) / 2].id z < 0 := by
          unfold cmpI
          rw [if_neg hc]
          split <;> decide
        refine Wp.iff (decide_eq_false e) ?_
        rw [e40]
        refine bs_loop k hs hl hk fu a ((a + b) / 2) (by omega) (by omega) (by omega) h1 (fun i hi hle => ?_)
        by_cases hie : i = (a + b) / 2
        · subst hie
          omega
        · have := mono ((a + b) / 2) i hm hi (by omega)
          omega
    · obtain rfl : a = b := by omega
      refine Wp.lett (Wp.iff (by rw [decide_eq_false_iff_not]; omega) ?_)
      exact hk a hb ⟨h1, h2⟩
/-- the place of a letter -/
def fnd (ls : List Lt) (z : Int) : Option Nat := ls.findIdx? fun l => decide (l.id = z)
theorem fnd_some {z : Int} {k : Nat} (hk : k < ls.length) (hz : ls[k].id = z) (hs : ls.Pairwise fun x y => x.id < y.id) : fnd ls z = some k := by
  unfold fnd
  rw [List.findIdx?_eq_some_iff_getElem]
  refine ⟨hk, decide_eq_true hz, fun j hj => ?_⟩
  have := List.pairwise_iff_getElem.1 hs j k (by omega) hk hj
  rw [decide_eq_true_eq]
  omega
theorem fnd_none {z : Int} (hz : ∀ l ∈ ls, l.id ≠ z) : fnd ls z = none := by
  unfold fnd
  rw [List.findIdx?_eq_none_iff]
  intro l hl
  exact decide_eq_false (hz l hl)
theorem search_w (hn : 1000000 < n) (k : LAt h v ls) (hs : ls.Pairwise fun x y => x.id < y.id) (hl : ls.length ≤ 256) (z : Int) :
    ∃ r : AV, world n (d + 4) 44 [v, .int .i64 z, AV.fn 45 [] []] h = some (.ret r, h) ∧ ((∃ a : Nat, fnd ls z = some a ∧ r = .tup [.int .i64 (a : Int), .bool true]) ∨ (fnd ls z = none ∧ ∃ a : Int, r = .tup [.int .i64 a, .bool false])) := by
  suffices hK : Wp (world n (d + 4) 44 [v, .int .i64 z, AV.fn 45 [] []] h) fun r h' => h' = h ∧ ∃ v, r = .ret v ∧ ((∃ a : Nat, fnd ls z = some a ∧ v = .tup [.int .i64 (a : Int), .bool true]) ∨ (fnd ls z = none ∧ ∃ a : Int, v = .tup [.int .i64 a, .bool false])) by
    obtain ⟨_, h', e, rfl, v, rfl, k⟩ := hK
    exact ⟨v, e, k⟩
  rw [w_slices_BinarySearchFunc___api_Letter_api_Letter_int_]
  unfold slices_BinarySearchFunc___api_Letter_api_Letter_int_
  refine Wp.obind k.len (Wp.lettG fun k7 e7 => ?_)
  refine bs_loop (d := d) k hs hl (fun a ha hA => ?_) n 0 ls.length (by omega) (Nat.zero_le _) (Nat.le_refl _) (fun i hi h => absurd h (Nat.not_lt_zero _)) (fun i hi h => absurd hi (by omega))
  rw [e7]
  refine Wp.lett (Wp.lettG fun j48 e48 => ?_)
  by_cases h1 : a < ls.length
  · obtain ⟨p, i1, r1⟩ := k.row h1
    refine Wp.ift (by rw [decide_eq_true_eq]; omega) (Wp.obind i1 (Wp.obind r1 ?_))
    rw [dynF]
    refine Wp.callN (find1_w _ _) (Wp.obind (avInt_int _ _) (Wp.lett ?_))
    rw [e48]
    have hge := hA.2 a h1 (Nat.le_refl _)
    by_cases h2 : ls[a].id = z
    · have e : cmpI ls[a].id z = 0 := by
        unfold cmpI
        rw [if_neg (by omega), if_neg (by omega)]
      rw [e]
      exact Wp.ret ⟨rfl, _, rfl, .inl ⟨a, fnd_some h1 h2 hs, rfl⟩⟩
    · have e : cmpI ls[a].id z = 1 := by
        unfold cmpI
        rw [if_neg (by omega), if_pos (by omega)]
      rw [e]
      refine Wp.ret ⟨rfl, _, rfl, .inr ⟨fnd_none fun l hl => ?_, _, rfl⟩⟩
      obtain ⟨i, hi, rfl⟩ := List.getElem_of_mem hl
      rcases Nat.lt_trichotomy i a with h | h | h
      · have := hA.1 i hi h
        omega
      · subst h
        exact h2
      · have := List.pairwise_iff_getElem.1 hs a i h1 hi h
        omega
  · refine Wp.iff (by rw [decide_eq_false_iff_not]; omega) ?_
    rw [e48]
    refine Wp.ret ⟨rfl, _, rfl, .inr ⟨fnd_none fun l hl => ?_, _, rfl⟩⟩
    obtain ⟨i, hi, rfl⟩ := List.getElem_of_mem hl
    have := hA.1 i hi (by omega)
    omega
/-- what find comes to -/
noncomputable def findV (ls : List Lt) (z : Int) : AV := match fnd ls z with
  | some a => .tup [.int .i64 (a : Int), .int .i64 0]
  | none => .tup [.int .i64 0, .int .i64 4]
theorem find_w (hn : 1000000 < n) (K : NetD lo h nb fv mb s) (z : Int) : world n (d + 5) 35 [.ptr nb 0, .int .i64 z] h = some (.ret (findV s.ls z), h) := by
  apply Wp.eq
  rw [w_net_Net_find]
  unfold net_Net_find
  obtain ⟨r, e, hr⟩ := search_w (n := n) (d := d) hn K.fl K.srt K.len z
  refine Wp.outK (eqNet nb 0 h) (Wp.obind (avBool_bool _) (Wp.iff rfl (Wp.obind (nilC_ptr _ _) (Wp.obind (fldP_ptr _ _ _) (Wp.obind (RowH.cell' K.row (show [fv, AV.int .i64 (s.last : Int), .mp mb][0 + 0]? = some fv from rfl)) (Wp.callN e ?_))))))
  unfold findV
  rcases hr with ⟨a, ha, rfl⟩ | ⟨ha, a, rfl⟩
  · rw [ha]
    refine Wp.obind (extT_0 _ _) (Wp.obind (avInt_int _ _) (Wp.obind (extT_1 _ _ _) (Wp.obind (avBool_bool _) (Wp.lett (Wp.iff rfl ?_)))))
    exact Wp.ret ⟨rfl, rfl⟩
  · rw [ha]
    refine Wp.obind (extT_0 _ _) (Wp.obind (avInt_int _ _) (Wp.obind (extT_1 _ _ _) (Wp.obind (avBool_bool _) (Wp.lett (Wp.ift rfl ?_)))))
    exact Wp.ret ⟨rfl, rfl⟩
end
end Go.Proofs.Ythdkfofkghpmcaa
