/- frame.All and frame.Scan: the iterator's contract, and the scan's. -/
import Derived.Test.YthnoebdfofbpoaaFrList
import Derived.Test.YthnoebdfofbpoaaFrLaws
import Derived.RangeFuncNested
import Derived.RangeFuncBound
import Derived.RangeFuncCalls
import Derived.RangeFuncLeaves
import Derived.RangeFuncBox
import Derived.Shelf.Abstract
import Derived.Shelf.RegionOpen
import Derived.OwnWalkIn
import Derived.TacticsInMore
import Derived.LoopNIn
import Derived.LoopIn
import Derived.Maps.AppendAt
namespace Go.Proofs.Ythnoebdfofbpoaa
open Go.RowKit Go.Shelf

attribute [local go_sem] Oper.semAt_some

def encX (x : FrX) : Array Value := #[.int .i64 x.1.1, .string x.1.2]

/-- What a round keeps: the text that is gone over. -/
def KpAt (Bn : Nat) (W W' : World) : Prop := W'.heap[Bn]? = W.heap[Bn]?
theorem kpAt_t {Bn : Nat} {A B C : World} (h : KpAt Bn A B) (k : KpAt Bn B C) : KpAt Bn A C := Eq.trans k h
theorem kpAt_b {Bn : Nat} {w : World} (hn : Bn < w.heap.size) (W : World) (l : Nat) (o o' : Obj) (hl : w.heap.size ≤ l) (_ : W.heap[l]? = some o) (_ : o.isCells = false) (_ : o.isWalk = false) : KpAt Bn W (W.putObj l o') :=
  World.putObj_heap_other (by omega)

set_option maxRecDepth 100000 in
set_option maxHeartbeats 1000000 in
theorem all1_in (n : Nat) (l Bn : Nat) (s : ByteArray) (hs : s.size ≤ 1048576) (J Jx : List FrX → World → Prop)
    (hJa : ∀ ys W W', J ys W → Below W.heap.size W W' → J ys W')
    (hY : ∀ pre x W, J pre W → pre.length < (framesF s).length → YieldAt Fence.wide (n - 1) Try.prog l (encX x) W fun e W' =>
      (e = .returned (.bool true) ∧ J (pre ++ [x]) W' ∧ KpAt Bn W W') ∨ (e = .returned (.bool false) ∧ Jx (pre ++ [x]) W'))
    (W : World) (hBn : W.cell? ⟨Bn, 0, none⟩ = some (.string s)) (h0 : J [] W) :
    CallsIn Fence.wide n Try.prog 25 #[.func (.yield l) #[] #[], .pointer (some ⟨Bn, 0, none⟩)] W fun e W' => (∃ v, e = .returned v) ∧
      ((∃ ys, ys = framesF s ∧ J ys W') ∨ (∃ pre, pre <+: framesF s ∧ Jx pre W')) := by
  refine callsIn_of_wp Try.func25 rfl trivial ?_ rfl
  simp only [Try.ntmps25, List.size_toArray, List.length_cons, List.length_nil, Nat.reduceAdd, Nat.reduceSub, Array.replicate_succ, Array.replicate_zero, List.push_toArray, List.append_toArray, List.nil_append, List.cons_append]
  gi_wp2
  gi_loopw [3] (fun p wr => ∃ (at_ k : Nat) (pre : List FrX), p = .int .i64 at_ ∧ at_ ≤ s.size ∧ s.size - at_ < k ∧ pre ++ framesGo s k at_ = framesF s ∧ J pre wr ∧ wr.cell? ⟨Bn, 0, none⟩ = some (.string s))
    (fun p _ => (s.size - intOf p).toNat)
  case atStart => exact ⟨0, s.size + 1, [], rfl, by omega, by omega, rfl, h0, hBn⟩
  case round =>
    obtain ⟨at_, k, pre, rfl, hat, hk, hpre, hJs, hc⟩ := hrel
    have hfz := from_size s at_ hat
    have ht := fun w => take_any (from_ s at_) (by omega) w
    obtain ⟨⟨pl, n1, er⟩, hr⟩ : ∃ r, r = takeF (from_ s at_) := ⟨_, rfl⟩
    by_cases he : er = 0
    · have hz : (takeF (from_ s at_)).2.2 = 0 := by rw [← hr]; exact he
      obtain ⟨k1, k2, k3⟩ := takeF_ok hz
      obtain ⟨k', rfl⟩ : ∃ k', k = k' + 1 := ⟨k - 1, by omega⟩
      obtain ⟨x, hgo, hx⟩ : ∃ x : FrX, framesGo s (k' + 1) at_ = x :: framesGo s k' (at_ + (takeF (from_ s at_)).2.1) ∧ x.1 = (at_, (takeF (from_ s at_)).1) := ⟨_, framesGo_yes s k' at_ hat hs hz, rfl⟩
      rw [← hr] at hgo hx
      have hxe : encX x = #[.int .i64 at_, .string pl] := by unfold encX; rw [hx]
      rw [← hr] at k1 k2 k3
      simp only [← hr] at ht
      subst he
      simp only at k1 k2 k3 hgo
      have HT := Lib.hid ht
      have HG := Lib.hid hgo
      have hlen : pre.length < (framesF s).length := by rw [← hpre, hgo]; simp
      clear ht hgo hr hz
      have hfrom : s.extract at_ s.size = from_ s at_ := rfl
      gi_wp2_with fail
      refine ⟨trivial, (fun h => by cases h), ?_⟩
      refine (callsIn_wide.2 (HT.out _)).mono ?_
      rintro e W1 ⟨rfl, hb⟩
      have hJ1 := hJa _ _ _ hJs hb
      have hc1 : W1.cell? ⟨Bn, 0, none⟩ = some (.string s) := (hb.cell (p := ⟨Bn, 0, none⟩) (World.block_lt_of_cell? wr _ hc)).trans hc
      obtain ⟨fn, tmps, assign, body, hy, hR⟩ := hY pre x W1 hJ1 hlen
      rw [hxe] at hy
      gi_wp2
      refine ⟨fun h => (by cases h), hR.mono ?_⟩
      rintro e W3 (⟨rfl, hJ3, hk3⟩ | ⟨rfl, hJx3⟩)
      · have hc3 : W3.cell? ⟨Bn, 0, none⟩ = some (.string s) := (World.cell?_of_block (a := ⟨Bn, 0, none⟩) hk3).trans hc1
        gi_wp2
        go_roundw
        case rel => exact ⟨at_ + n1, k', pre ++ [x], val_int (by omega), by omega, by omega, by rw [← hpre, HG.out]; simp, hJ3, hc3⟩
        case measure => simp [intOf]; omega
      · gi_wp2
        refine bodyPost_ret (results_none rfl _ _ _) rfl ?_
        exact ⟨⟨_, rfl⟩, .inr ⟨pre ++ [x], ⟨framesGo s k' (at_ + n1), by rw [← hpre, HG.out]; simp⟩, hJx3⟩⟩
    · have hz : (takeF (from_ s at_)).2.2 ≠ 0 := by rw [← hr]; exact he
      have hgo := framesGo_no s k at_ hz
      simp only [← hr] at ht
      have hne : (er != 0) = true := by rw [bne_iff_ne]; exact he
      have HT := Lib.hid ht
      rw [hgo, List.append_nil] at hpre
      clear ht hgo hr hz he
      have hfrom : s.extract at_ s.size = from_ s at_ := rfl
      gi_wp2_with fail
      refine ⟨trivial, (fun h => by cases h), ?_⟩
      refine (callsIn_wide.2 (HT.out _)).mono ?_
      rintro e W1 ⟨rfl, hb⟩
      have hJ1 := hJa _ _ _ hJs hb
      gi_wp2
      refine ⟨fun _ h => (by cases h), ?_⟩
      gi_wp2
      refine bodyPost_ret (results_none rfl _ _ _) rfl ?_
      exact ⟨⟨_, rfl⟩, .inl ⟨pre, hpre, hJ1⟩⟩

/-- What frame.All hands back tells the frames, one by one, or some of them, where a round has said 'no more'. -/
theorem all_stops (n Bn : Nat) (s : ByteArray) (hs : s.size ≤ 1048576) (w : World) (hBn : Bn < w.heap.size) (hc : w.cell? ⟨Bn, 0, none⟩ = some (.string s)) :
    SeqStopsK Fence.wide n Try.prog 25 #[.pointer (some ⟨Bn, 0, none⟩)] encX (KpAt Bn) (fun ys => ys = framesF s) (fun pre => pre <+: framesF s) (framesF s).length w := fun l J Jx W hW hJ _ hY h0 =>
  all1_in n l Bn s hs J Jx (fun ys A B h hb => hJ ys A B none h ⟨hb.os, hb.tape, hb.output, hb.size, fun k hk _ => hb.block k hk⟩ (fun _ h => by cases h)) hY W ((hW.cell (p := ⟨Bn, 0, none⟩) hBn).trans hc) h0

theorem Try.infoStr : (Try.prog.info? 9).map (fun i => (i.zero, i.size, i.bytes)) = some (some (.string ⟨#[]⟩), 1, 16) := by kernel_rfl

theorem ownsRow_base {w : World} {b b' : Nat} {e : TypeId} {size : Nat} {v : Value} {n : Nat} {xs : List Value} (h : w.ownsRow b e size v n xs) (hb : b' ≤ b) : w.ownsRow b' e size v n xs := by
  refine ⟨h.1, ?_⟩
  rcases h.2 with hn | ⟨g, cap, cur, hv, hbg, r⟩
  · exact .inl hn
  · exact .inr ⟨g, cap, cur, hv, by omega, r⟩

theorem payF_snoc (l : List FrX) (x : FrX) : (payF (l ++ [x])).map Value.string = (payF l).map Value.string ++ [Value.string x.1.2] := by simp [payF]
theorem payF_length (l : List FrX) : (payF l).length = l.length := by simp [payF]

theorem ownsRow_slice {w : World} {b : Nat} {e : TypeId} {size : Nat} {v : Value} {n : Nat} {xs : List Value} (h : w.ownsRow b e size v n xs) : ∃ a cap, v = .slice a n cap := by
  rcases h.2 with ⟨rfl, rfl⟩ | ⟨g, cap, cur, rfl, _⟩
  · exact ⟨none, 0, rfl⟩
  · exact ⟨_, cap, rfl⟩

theorem scan_step {W w1 : World} {n : Nat} {v v' : Value} {k m : Nat} {xs ys : List Value} {g0 : Value} {tmp : Obj} (hv : Boxed W n 28 v) (hg : Boxed W (n + 1) 3 g0)
    (hrow : W.ownsRow (n + 1 + 1 + 1) 9 1 v k xs) (hz : n + 1 + 1 + 1 ≤ W.heap.size) (hown' : w1.ownsRow (n + 1 + 1 + 1) 9 1 v' m ys) (hgrow : (W.alloc tmp).grownBy w1 v.ownBlock) :
    (Boxed w1 n 28 v ∧ Boxed w1 (n + 1) 3 g0) ∧
    ∀ u, KeepsOthers W ((w1.setCell ⟨n, 0, none⟩ v').setCell ⟨n + 1, 0, none⟩ u) ∧ KpAt (n + 1 + 1) W ((w1.setCell ⟨n, 0, none⟩ v').setCell ⟨n + 1, 0, none⟩ u) ∧
      Boxed ((w1.setCell ⟨n, 0, none⟩ v').setCell ⟨n + 1, 0, none⟩ u) n 28 v' ∧ Boxed ((w1.setCell ⟨n, 0, none⟩ v').setCell ⟨n + 1, 0, none⟩ u) (n + 1) 3 u ∧
      ((w1.setCell ⟨n, 0, none⟩ v').setCell ⟨n + 1, 0, none⟩ u).ownsRow (n + 1 + 1 + 1) 9 1 v' m ys ∧ Below n W ((w1.setCell ⟨n, 0, none⟩ v').setCell ⟨n + 1, 0, none⟩ u) := by
  have hrow0 := ownsRow_base hrow (show n ≤ n + 1 + 1 + 1 by omega)
  obtain ⟨hv1, hv2, _, hk2, hb2⟩ := hv.appended (by decide) hrow0 (by omega) (Nat.le_refl _) (ownsRow_base hown' (show n ≤ n + 1 + 1 + 1 by omega)) hgrow
  have hg1 : Boxed w1 (n + 1) 3 g0 := (hg.alloc tmp).kept hgrow ((hg.alloc tmp).not_row (by decide) (hrow.alloc tmp))
  have hbn : KpAt (n + 1 + 1) W w1 := by
    have h1 := hgrow.block (n + 1 + 1) (by simp; omega) (by
      intro e'
      have := (hrow.alloc tmp).lt _ e'.symm
      omega)
    exact h1.trans (Below.heap_alloc W _ _ (by omega))
  refine ⟨⟨hv1, hg1⟩, fun u => ⟨hk2.trans (KeepsOthers.setCell _ _ _), ?_, hv2.other (by omega) _, ?_, ?_, hb2.setCell (p := ⟨n + 1, 0, none⟩) (by simp) _⟩⟩
  · exact (Below.heap_setCell _ _ _ _ (show n + 1 + 1 ≠ n + 1 by omega)).trans ((Below.heap_setCell _ _ _ _ (show n + 1 + 1 ≠ n by omega)).trans hbn)
  · exact (hg1.other (by omega) _).set _
  · refine (hown'.kept (grownBy_setCell' w1 n v') (.inr fun e => ?_)).kept (grownBy_setCell' _ (n + 1) u) (.inr fun e => ?_)
    · have := hown'.lt _ e
      omega
    · have := hown'.lt _ e
      omega

set_option maxRecDepth 100000 in
set_option maxHeartbeats 400000 in
theorem scan_in (s : ByteArray) (hs : s.size ≤ 1048576) (w : World) :
    CallsIn Fence.wide 3 Try.prog 11 #[.string s] w fun e W' => ∃ v, e = .returned (.tuple #[v, .int .i64 (goodF (framesF s) : Nat)]) ∧ W'.ownsRow w.heap.size 9 1 v (framesF s).length ((payF (framesF s)).map Value.string) ∧ Below w.heap.size w W' := by
  obtain ⟨i0, hi, hz0, hz1, hz2⟩ := info_parts Try.infoStr
  have hroom := framesF_room s
  refine callsIn_of_wp_marks Try.func11 rfl trivial ?_ rfl
  simp only [Try.ntmps11, List.size_toArray, List.length_cons, List.length_nil, Nat.reduceAdd, Nat.reduceSub, Array.replicate_succ, Array.replicate_zero, List.push_toArray, List.append_toArray, List.nil_append, List.cons_append]
  gi_wp2_with fail
  refine ⟨trivial, (callsIn_wide.2 (all_any s _)).mono ?_⟩
  rintro e W1 ⟨rfl, hw1⟩
  obtain rfl := hw1
  have b1 := Boxed.new w 28 (.slice none 0 0)
  have b2 := Boxed.new (w.alloc (.cells #[.slice none 0 0] 28)) 3 (.int .i64 0)
  have b3 := Boxed.new ((w.alloc (.cells #[.slice none 0 0] 28)).alloc (.cells #[.int .i64 0] 3)) 9 (.string s)
  have hB0 : Below w.heap.size w (((w.alloc (.cells #[.slice none 0 0] 28)).alloc (.cells #[.int .i64 0] 3)).alloc (.cells #[.string s] 9)) := (((Below.refl _ w).alloc (Nat.le_refl _) _).alloc (by simp) _).alloc (by simp; omega) _
  rw [World.size_alloc] at b2 b3
  rw [World.size_alloc] at b3
  gi_wp2_with fail
  have hsz : (((w.alloc (.cells #[.slice none 0 0] 28)).alloc (.cells #[.int .i64 0] 3)).alloc (.cells #[.string s] 9)).heap.size = w.heap.size + 1 + 1 + 1 := by simp
  have b1' := (b1.alloc (.cells #[.int .i64 0] 3)).alloc (.cells #[.string s] 9)
  have b2' := b2.alloc (.cells #[.string s] 9)
  generalize (((w.alloc (.cells #[.slice none 0 0] 28)).alloc (.cells #[.int .i64 0] 3)).alloc (.cells #[.string s] 9)) = W0 at b3 hB0 hsz b1' b2' ⊢
  clear b1 b2
  refine wpIn_rangeFunc_ownG rfl (by decide) (gf := 25) (lb := #[.pointer (some ⟨w.heap.size + 1 + 1, 0, none⟩)]) rfl trivial (enters_of Try.func25 (by kernel_rfl) rfl)
    (all_stops 2 (w.heap.size + 1 + 1) s hs W0 (by omega) b3.cell) kpAt_t (kpAt_b (by omega)) (Below.refl _ _) (fun _ => rfl)
    (fun pre W => ((∃ v, Boxed W w.heap.size 28 v ∧ W.ownsRow (w.heap.size + 1 + 1 + 1) 9 1 v pre.length ((payF pre).map Value.string) ∧ True) ∧ Boxed W (w.heap.size + 1) 3 (.int .i64 (goodF pre : Nat))) ∧ Below w.heap.size W0 W)
    (fun _ _ _ => False)
    (OwnFrom.and (OwnFrom.and (Own.from (holdsRow_own (w.heap.size + 1 + 1 + 1) w.heap.size 28 9 1 (fun pre : List FrX => pre.length) (fun pre => (payF pre).map Value.string) (fun _ _ => True)) _) (Own.from (boxed_own (w.heap.size + 1) 3 (fun pre : List FrX => .int .i64 (goodF pre : Nat))) _)) (ownFrom_below (by omega) (by omega)))
    (fun _ _ _ _ _ hs _ _ => hs)
    ⟨⟨⟨_, b1', World.ownsRow_nil _ _ _ _, trivial⟩, b2'⟩, Below.refl _ _⟩
    (fun x => { tmps := #[.string s, undef, .pointer (some ⟨w.heap.size, 0, none⟩), .pointer (some ⟨w.heap.size + 1, 0, none⟩), .int .i64 x.1.1, .string x.1.2, .string s, .func (.func 25) #[] #[.pointer (some ⟨w.heap.size + 1 + 1, 0, none⟩)], .int .i64 x.1.1, .string x.1.2, undef, undef, undef, undef, undef, undef, undef, undef, undef, undef, undef, undef], defers := [] }) ?assign ?body ?done ?stop
  case assign =>
    intro l x W K hK
    dsimp only [encX]
    gi_wp2
    exact hK
  case body =>
    rintro l pre x W ⟨⟨⟨v, hv, hrow, _⟩, hg⟩, hB⟩ hlt
    obtain ⟨⟨p, t⟩, hp, ht⟩ := x
    simp only at hp ht ⊢
    have hc := hv.cell
    have hgc := hg.cell
    have hgf := hg.frozen
    have hvf := hv.frozen
    have hwz := hB.size
    have hpl : pre.length * 12 ≤ s.size := by omega
    clear hc hgc hgf hvf
    have hc := hv.cell
    have hz3 : w.heap.size + 1 + 1 + 1 ≤ W.heap.size := by omega
    have hz4 : w.heap.size + 1 + 1 + 1 ≤ (W.alloc (.cells #[.string t] 9)).heap.size := by simp; omega
    have ha1 : pre.length + 1 ≤ maxLen := by unfold maxLen; omega
    have ha2 : (pre.length + 1) * 16 ≤ 140737488355328 := by omega
    have hps : payF (pre ++ [⟨(p, t), hp, ht⟩]) = payF pre ++ [t] := by simp [payF]
    have hgs := goodF_snoc pre ⟨(p, t), hp, ht⟩
    have HPS := Lib.hid hps; have HGS := Lib.hid hgs; have HZ4 := Lib.hid hz4; have HA1 := Lib.hid ha1; have HA2 := Lib.hid ha2
    have HSZ := Lib.hid hsz
    clear hps hgs hz4 ha1 ha2 hsz
    gi_wp2_with (gi_at_builtin; go_loud (refine wpListIn_append_own _ rfl _ _ 28 rfl (w.heap.size + 1 + 1 + 1) 9 i0 (.string ⟨#[]⟩) 1 16 Try.underlying28 hi hz0 hz1 hz2 rfl (by decide) _ _ _ rfl (hrow.alloc _) ⟨W.heap.size, 0, none⟩ 1 1 [.string t] rfl rfl (cell_one_new _ _ _) (by simp [Value.oneCell']) HA1.out HA2.out HZ4.out ?_; intro v' w1 hown' hgrow _; obtain ⟨g', cap', rfl⟩ := ownsRow_succ hown'; obtain ⟨⟨hv1, hg1⟩, HU⟩ := scan_step hv hg hrow hz3 hown' hgrow; have hc1 := hv1.cell; have hf1 := hv1.frozen; have hc2 := hg1.cell; have hf2 := hg1.frozen; have HU := Lib.hid HU))
    have e4 : (p : Int) + 8 + (t.size : Int) + 4 = ((p + t.size + 12 : Nat) : Int) := by omega
    rw [e4]
    obtain ⟨q1, q2, q3, q4, q5, q6⟩ := HU.out (.int .i64 ((p + t.size + 12 : Nat) : Int))
    refine ⟨q1.from _, q2, ⟨⟨_, q3, ?_⟩, ?_⟩, hB.trans q6⟩
    · rw [HPS.out]
      simpa using q5
    · rw [HGS.out]
      exact q4
  case done =>
    rintro D ys W hD rfl ⟨⟨⟨v, hv, hrow, _⟩, hg⟩, hB⟩ hK
    obtain ⟨va, vc, rfl⟩ := ownsRow_slice hrow
    have hc := hv.cell
    have hgc := hg.cell
    have hvf := hv.frozen
    have hgf := hg.frozen
    gi_wp2_with fail
    gi_region
    gi_wp2_with fail
    have hDl := (Array.getElem?_eq_some_iff.1 hK).1
    have hBl := hv.lt
    have hGl := hg.lt
    have z1 : Boxed ((W.setCell ⟨w.heap.size, 0, none⟩ (.slice va (framesF s).length vc)).setCell ⟨w.heap.size + 1, 0, none⟩ (.int .i64 (goodF (framesF s) : Nat))).drew w.heap.size 28 (.slice va (framesF s).length vc) := (hv.set _).other (by omega) _
    have z2 : Boxed ((W.setCell ⟨w.heap.size, 0, none⟩ (.slice va (framesF s).length vc)).setCell ⟨w.heap.size + 1, 0, none⟩ (.int .i64 (goodF (framesF s) : Nat))).drew (w.heap.size + 1) 3 (.int .i64 (goodF (framesF s) : Nat)) := (hg.other (by omega) _).set _
    have z3 : ((W.setCell ⟨w.heap.size, 0, none⟩ (.slice va (framesF s).length vc)).setCell ⟨w.heap.size + 1, 0, none⟩ (.int .i64 (goodF (framesF s) : Nat))).drew.ownsRow (w.heap.size + 1 + 1 + 1) 9 1 (.slice va (framesF s).length vc) (framesF s).length ((payF (framesF s)).map Value.string) :=
      ((hrow.kept (grownBy_setCell' W w.heap.size _) (.inr fun e => by have := hrow.lt _ e; omega)).kept (grownBy_setCell' _ (w.heap.size + 1) _) (.inr fun e => by have := hrow.lt _ e; omega)).drew
    have z4 : Below w.heap.size w ((W.setCell ⟨w.heap.size, 0, none⟩ (.slice va (framesF s).length vc)).setCell ⟨w.heap.size + 1, 0, none⟩ (.int .i64 (goodF (framesF s) : Nat))).drew :=
      ((((hB0.trans hB).setCell (p := ⟨w.heap.size, 0, none⟩) (Nat.le_refl _) _).setCell (p := ⟨w.heap.size + 1, 0, none⟩) (by simp) _).drew)
    have z5 : ((W.setCell ⟨w.heap.size, 0, none⟩ (.slice va (framesF s).length vc)).setCell ⟨w.heap.size + 1, 0, none⟩ (.int .i64 (goodF (framesF s) : Nat))).drew.heap[D]? = some (.deferred (some [])) :=
      (Below.heap_setCell _ _ _ _ (show D ≠ w.heap.size + 1 by omega)).trans ((Below.heap_setCell _ _ _ _ (show D ≠ w.heap.size by omega)).trans hK)
    generalize ((W.setCell ⟨w.heap.size, 0, none⟩ (.slice va (framesF s).length vc)).setCell ⟨w.heap.size + 1, 0, none⟩ (.int .i64 (goodF (framesF s) : Nat))).drew = Wz at z1 z2 z3 z4 z5 ⊢
    refine ⟨by simp, .inl ⟨_, _, rfl, run_takeDeferred z5, ?_⟩⟩
    have y1 := z1.kept (grownBy_putObj' Wz D (.deferred none)) (by intro e; cases e; omega)
    have y2 := z2.kept (grownBy_putObj' Wz D (.deferred none)) (by intro e; cases e; omega)
    have y3 := ownsRow_putObj z3 (.deferred none) z5 rfl
    have x1 := y1.cell
    have x2 := y2.cell
    exact ⟨.tuple #[.slice va (framesF s).length vc, .int .i64 (goodF (framesF s) : Nat)], by simp [results, Try.results11, go_sem, x1, x2], _, rfl, ownsRow_base y3 (by omega), z4.trans (belowK_b (w := w) (Nat.le_refl _) Wz D _ _ (by omega) z5 rfl rfl)⟩
  case stop =>
    rintro D c pre W _ _ h _
    exact h.elim

theorem scan_any (s : ByteArray) (hs : s.size ≤ 1048576) (w : World) :
    Calls Try.prog 11 #[.string s] w fun e W' => ∃ v, e = .returned (.tuple #[v, .int .i64 (goodF (framesF s) : Nat)]) ∧ W'.ownsRow w.heap.size 9 1 v (framesF s).length ((payF (framesF s)).map Value.string) ∧ Below w.heap.size w W' :=
  callsIn_wide.1 (scan_in s hs w)

end Go.Proofs.Ythnoebdfofbpoaa
