/- What a message is read from: the program's reading. -/
import Derived.Test.YtmibgiblejpgdaaRd
import Derived.Test.YtmibgiblejpgdaaAbs52
import Derived.Test.YtmibgiblejpgdaaFoA
namespace Go.Proofs.Ytmibgiblejpgdaa
open Go.RowKit Abs

def rSt (s : Bytes) (r : RS) : Nat → RS
  | 0 => r
  | i + 1 => (rNum s 8 (rSt s r i)).2
def rV (s : Bytes) (r : RS) (i : Nat) : Nat := (rNum s 8 (rSt s r i)).1
def eSt (s : Bytes) (r : RS) : Nat → RS
  | 0 => r
  | i + 1 => (rText s 3500 (rNum s 8 (eSt s r i)).2).2
def eV (s : Bytes) (r : RS) (i : Nat) : Nat × Bytes := ((rNum s 8 (eSt s r i)).1, (rText s 3500 (rNum s 8 (eSt s r i)).2).1)
abbrev q1 (s : Bytes) : RS := (rNum s 1 ⟨0, 0, 0⟩).2
abbrev q2 (s : Bytes) : RS := rSt s (q1 s) 15
abbrev q3 (s : Bytes) : RS := (rBool s (q2 s)).2
abbrev q4 (s : Bytes) : RS := (rNum s 1 (q3 s)).2
abbrev q5 (s : Bytes) : RS := (rNum s 4 (q4 s)).2
abbrev q6 (s : Bytes) : RS := (rNum s 1 (q5 s)).2
abbrev q7 (s : Bytes) : RS := (rText s 3500 (q6 s)).2
abbrev q8 (s : Bytes) : RS := (rNum s 1 (q7 s)).2
abbrev manyOf (s : Bytes) : Nat := (rNum s 1 (q7 s)).1
def cntOf (s : Bytes) : Nat := if 4 < manyOf s then 4 else manyOf s
abbrev q9 (s : Bytes) : RS := eSt s (q8 s) (cntOf s)
def entsF (f : Nat → Int) (s : Bytes) (k : Nat) : List (Int × Bytes) := (List.range k).map fun i => (f (eV s (q8 s) i).1, (eV s (q8 s) i).2)
/-- the message as far as it is read -/
def msgUp (f : Nat → Int) (s : Bytes) (i : Nat) : Ms := ⟨((rNum s 1 ⟨0, 0, 0⟩).1 : Int), fun j => if j.val < i then f (rV s (q1 s) j.val) else 0, false, .nsl, [], 0, 0, 0⟩
def msgF (f : Nat → Int) (s : Bytes) (x : AV) : Ms := ⟨((rNum s 1 ⟨0, 0, 0⟩).1 : Int), fun j => f (rV s (q1 s) j.val), (rBool s (q2 s)).1, x, (rText s 3500 (q6 s)).1, ((rNum s 1 (q3 s)).1 : Int), ((rNum s 4 (q4 s)).1 : Int), ((rNum s 1 (q5 s)).1 : Int)⟩
theorem rSt_ok {s : Bytes} {r : RS} (h : r.ok s) : ∀ i, (rSt s r i).ok s
  | 0 => h
  | i + 1 => rNum_ok (rSt_ok h i)
theorem eSt_ok {s : Bytes} {r : RS} (h : r.ok s) : ∀ i, (eSt s r i).ok s
  | 0 => h
  | i + 1 => rText_ok (rNum_ok (eSt_ok h i))
theorem ok0 (s : Bytes) : RS.ok s ⟨0, 0, 0⟩ := Nat.zero_le _
theorem ok1 (s : Bytes) : (q1 s).ok s := rNum_ok (ok0 s)
theorem ok2 (s : Bytes) : (q2 s).ok s := rSt_ok (ok1 s) _
theorem ok3 (s : Bytes) : (q3 s).ok s := rBool_ok (ok2 s)
theorem ok4 (s : Bytes) : (q4 s).ok s := rNum_ok (ok3 s)
theorem ok5 (s : Bytes) : (q5 s).ok s := rNum_ok (ok4 s)
theorem ok6 (s : Bytes) : (q6 s).ok s := rNum_ok (ok5 s)
theorem ok7 (s : Bytes) : (q7 s).ok s := rText_ok (ok6 s)
theorem ok8 (s : Bytes) : (q8 s).ok s := rNum_ok (ok7 s)
theorem up_succ (f : Nat → Int) (s : Bytes) : ∀ i : Fin 15, (msgUp f s i.val).cells.set (numAt i) (.int .i64 (f (rV s (q1 s) i.val))) = (msgUp f s (i.val + 1)).cells
  | ⟨0, _⟩ => rfl
  | ⟨1, _⟩ => rfl
  | ⟨2, _⟩ => rfl
  | ⟨3, _⟩ => rfl
  | ⟨4, _⟩ => rfl
  | ⟨5, _⟩ => rfl
  | ⟨6, _⟩ => rfl
  | ⟨7, _⟩ => rfl
  | ⟨8, _⟩ => rfl
  | ⟨9, _⟩ => rfl
  | ⟨10, _⟩ => rfl
  | ⟨11, _⟩ => rfl
  | ⟨12, _⟩ => rfl
  | ⟨13, _⟩ => rfl
  | ⟨14, _⟩ => rfl
theorem up_all (f : Nat → Int) (s : Bytes) : (msgUp f s 15).cells = [.int .u8 ((rNum s 1 ⟨0, 0, 0⟩).1 : Int), .int .i64 (f (rV s (q1 s) 0)), .int .i64 (f (rV s (q1 s) 1)), .int .i64 (f (rV s (q1 s) 2)), .int .i64 (f (rV s (q1 s) 3)), .int .i64 (f (rV s (q1 s) 4)), .int .i64 (f (rV s (q1 s) 5)), .int .i64 (f (rV s (q1 s) 6)), .bool false, .nsl, .int .i64 (f (rV s (q1 s) 7)), .int .i64 (f (rV s (q1 s) 8)), strA [], .int .i64 (f (rV s (q1 s) 9)), .int .i64 (f (rV s (q1 s) 10)), .int .i64 (f (rV s (q1 s) 11)), .int .i64 (f (rV s (q1 s) 12)), .int .i64 (f (rV s (q1 s) 13)), .int .i64 (f (rV s (q1 s) 14)), .int .u8 0, .int .i64 0, .int .i64 0] := rfl
def fI (v : Nat) : Int := IntKind.i64.wrap (v : Int)
theorem rV_lt {s : Bytes} {r : RS} {i : Nat} : rV s r i < 18446744073709551616 := rNum_lt (w := 8)
theorem bldSl26_1 (h : AHeap) (a : Int) (s : Bytes) : bldSl Try.prog h 26 1 [(0, .agg [.int .i64 a, strA s])] = outNewS h 42 [.int .i64 a, strA s] 1 2 := by kernel_rfl
section
variable {n d b bm : Nat} {h h0 : AHeap} {s : Bytes} {r : RS} {Q : ARes → AHeap → Prop} {S : List Nat} {T : List RowT}
theorem read_loop1 (hs : s.length ≤ 1000000) (hn : 8 < n) {k16 : AHeap → R} (hk : ∀ h', Mem S h0 h' [(bm, 30, (msgUp fI s 15).cells), (b, 95, rdC s (q2 s))] → Wp (k16 h') Q) :
    ∀ (f i : Nat) (h : AHeap), 15 < f + i → i ≤ 15 → Mem S h0 h [(bm, 30, (msgUp fI s i).cells), (b, 95, rdC s (rSt s (q1 s) i))] → Wp (message_read_L1 (world n (d + 3)) (.ptr b 0) (numsP bm) k16 f (i : Int) h) Q
  | 0, i, h, h1, h2, _ => by omega
  | f + 1, i, h, h1, h2, M => by
    rw [message_read_L1_s]
    unfold message_read_L1b
    by_cases hi : i < 15
    · have e1 := nix h bm ⟨i, hi⟩
      have hv := rV_lt (s := s) (r := q1 s) (i := i)
      repeat (first | (with_reducible refine Wp.cl1 (u64_r (n := n) (d := d) (Mem.at1 (by assumption)).1 (rSt_ok (ok1 s) i) hs hn) (by assumption) (fun _ _ => ?_)) | (with_reducible refine Wp.lett ?_) | ((with_reducible apply Wp.obind); (with_reducible first | exact avInt_int _ _ | exact nilC_ptr _ _)) | ((with_reducible refine Wp.ift ?_ ?_); ((with_reducible apply decide_eq_true); omega)) | ((with_reducible apply Wp.outK); (with_reducible exact e1)))
      rename_i M1
      refine Wp.ms0 M1 (o := numAt ⟨i, hi⟩) (by have : ∀ j : Fin 15, numAt j < 22 := (by decide); exact this ⟨i, hi⟩) rfl (fun h2 M2 => ?_)
      have e2 := up_succ fI s ⟨i, hi⟩
      have e3 : (msgUp fI s i).cells.set (numAt ⟨i, hi⟩) (.int .i64 (IntKind.i64.wrap ((rNum s 8 (rSt s (q1 s) i)).1 : Int))) = (msgUp fI s (i + 1)).cells := e2
      rw [e3] at M2
      repeat (((with_reducible refine Wp.lettw ?_ ?_ ?_); omega; omega))
      rw [show (i : Int) + 1 = ((i + 1 : Nat) : Int) by omega]
      exact read_loop1 hs hn hk f (i + 1) h2 (by omega) (by omega) M2
    · have : i = 15 := by omega
      subst this
      repeat (first | (with_reducible refine Wp.lett ?_) | ((with_reducible refine Wp.iff ?_ ?_); ((with_reducible apply decide_eq_false); omega)))
      exact hk h M
theorem entsF_succ (f : Nat → Int) (s : Bytes) (k : Nat) : entsF f s (k + 1) = entsF f s k ++ [(f (eV s (q8 s) k).1, (eV s (q8 s) k).2)] := by
  unfold entsF
  rw [List.range_succ, List.map_append]
  rfl
theorem entsF_len (f : Nat → Int) (s : Bytes) (k : Nat) : (entsF f s k).length = k := by simp [entsF]
theorem rText_len {most : Nat} : (rText s most r).1.length ≤ most := by
  unfold rText
  split
  · exact Nat.zero_le _
  · split
    · exact Nat.zero_le _
    · split
      · exact Nat.zero_le _
      · rw [List.length_take]
        exact Nat.le_trans (Nat.min_le_left _ _) (by omega)
theorem read_loop0 (hs : s.length ≤ 1000000) (hn : 8 < n) (hx : memB 42 h0.ex = false) (m : AV → Ms) (hm : ∀ v, (m v).cells[9]? = some v) (hm2 : ∀ v v', (m v).cells.set 9 v' = (m v').cells) {hp : AHeap} {k59 : AHeap → R}
    (hk : ∀ h' v T, GrowT 42 2 ((entsF fI s (cntOf s)).map entC) v T → Mem S h0 h' ((hp.next, 30, (m v).cells) :: (b, 95, rdC s (q9 s)) :: T) → Wp (k59 h') Q) :
    ∀ (f i : Nat) (h : AHeap) (v : AV) (T : List RowT), cntOf s < f + i → i ≤ cntOf s → GrowT 42 2 ((entsF fI s i).map entC) v T → Mem S h0 h ((hp.next, 30, (m v).cells) :: (b, 95, rdC s (eSt s (q8 s) i)) :: T) → Wp (message_read_L0 (world n (d + 5)) (.ptr b 0) hp (cntOf s : Int) k59 f (i : Int) h) Q
  | 0, i, h, v, T, h1, h2, _, _ => by omega
  | f + 1, i, h, v, T, h1, h2, g, M => by
    rw [message_read_L0_s]
    unfold message_read_L0b
    have hc4 : cntOf s ≤ 4 := by unfold cntOf; split <;> omega
    by_cases hi : i < cntOf s
    · repeat (first | (with_reducible refine Wp.cl1 (u64_r (n := n) (d := d + 2) (Mem.at1 (by assumption)).1 (eSt_ok (ok8 s) i) hs hn) (by assumption) (fun _ _ => ?_)) | (with_reducible refine Wp.cl2 (text_r (n := n) (d := d) (most := 3500) (M := 3500) (Mem.at2 (by assumption)).1 (rNum_ok (eSt_ok (ok8 s) i)) hs hn rfl) (by assumption) (fun _ _ => ?_)) | ((with_reducible apply Wp.ld1); (with_reducible assumption); exact hm _) | ((with_reducible apply Wp.lr0); (with_reducible assumption); rfl) | ((with_reducible apply Wp.ms0); (with_reducible assumption); exact Nat.le_of_ble_eq_true rfl; rfl; intro _ _) | ((with_reducible apply Wp.sa0); (with_reducible assumption); rfl; rfl; rfl; intro _ _) | ((with_reducible apply Wp.mnew); (with_reducible assumption); intro _ _) | (with_reducible refine Wp.lett ?_) | ((with_reducible apply Wp.obind); (with_reducible first | exact avInt_int _ _ | exact avStr_str _)) | ((with_reducible refine Wp.ift ?_ ?_); ((with_reducible apply decide_eq_true); omega)) | rw [newP_eq])
      rename_i M3
      have g0 := g.1
      refine Wp.mnews M3 (bldSl26_1 _ _ _) rfl hx (fun h4 M4 => ?_)
      have M5 := M4.swap.pop
      have hrows : ((entsF fI s i).map entC).length ≤ 4 := by rw [List.length_map, entsF_len]; omega
      refine Wp.grow (xs := [(hp.next, 30, (m v).cells), (b, 95, rdC s (eSt s (q8 s) (i + 1)))]) (T := T) (sz := 2) (P := Try.prog) (t := 26) (u := 26) M5 g el26 not26 cells42 fit42 hx rfl rfl (by omega) (by omega) (fun v' h6 T' g' M6 => ?_)
      rw [g'.one.2]
      have e7 : (entsF fI s i).map entC ++ [[.int .i64 (fI (eV s (q8 s) i).1), strA (eV s (q8 s) i).2]] = (entsF fI s (i + 1)).map entC := by
        rw [entsF_succ, List.map_append]
        rfl
      have g'' : GrowT 42 2 ((entsF fI s (i + 1)).map entC) v' T' := by rw [← e7]; exact g'
      refine Wp.ms0 M6 (o := 9) (by have := hm v; exact (List.getElem?_eq_some_iff.1 this).1) g'.one.1 (fun h7 M7 => ?_)
      rw [hm2] at M7
      repeat (((with_reducible refine Wp.lettw ?_ ?_ ?_); omega; omega))
      rw [show (i : Int) + 1 = ((i + 1 : Nat) : Int) by omega]
      exact read_loop0 hs hn hx m hm hm2 hk f (i + 1) h7 v' T' (by omega) (by omega) g'' M7
    · have : i = cntOf s := by omega
      subst this
      repeat (first | (with_reducible refine Wp.lett ?_) | ((with_reducible refine Wp.iff ?_ ?_); ((with_reducible apply decide_eq_false); omega)))
      exact hk h v T g M
/-- the entries lie as they are told -/
theorem ents_grow {N : Nat} {es : List (Int × Bytes)} {v : AV} {xs : List RowT} {S : List Nat} {h0 h : AHeap} (g : GrowT 42 2 (es.map entC) v T) (M : Mem S h0 h (xs ++ T)) (hN : h.next ≤ N) : EntsAt N h v es := by
  rcases g.2 with ⟨h1, rfl, _⟩ | ⟨h1, c, rfl, rfl⟩
  · have := List.map_eq_nil_iff.1 h1
    subst this
    exact ⟨rfl, .inl rfl⟩
  · have hc := M.at
    rw [List.length_map]
    obtain ⟨⟨t, g1, g2⟩, g3, _⟩ := hc
    exact ⟨rfl, .inr ⟨c, by omega, rfl, t, .inr ⟨_, _, g1⟩, g2⟩⟩
theorem manyOf_lt (s : Bytes) : manyOf s < 256 := rNum_lt (w := 1)
set_option maxRecDepth 100000 in
theorem read_w (k : PR h b s ⟨0, 0, 0⟩) (hb : b < h.next) (hs : s.length ≤ 1000000) (hn : 100 < n) (hx : memB 42 h.ex = false) : ∃ v T h', world n (d + 6) 30 [.ptr b 0] h = some (.ret (.tup [.agg (msgF fI s v).cells, .int .i64 (manyOf s : Int)]), h') ∧ GrowT 42 2 ((entsF fI s (cntOf s)).map entC) v T ∧ ∃ bm, Mem [b] h h' ((bm, 30, (msgF fI s v).cells) :: (b, 95, rdC s (q9 s)) :: T) := by
  suffices hK : Wp (world n (d + 6) 30 [.ptr b 0] h) fun x h' => ∃ v T, x = .ret (.tup [.agg (msgF fI s v).cells, .int .i64 (manyOf s : Int)]) ∧ GrowT 42 2 ((entsF fI s (cntOf s)).map entC) v T ∧ ∃ bm, Mem [b] h h' ((bm, 30, (msgF fI s v).cells) :: (b, 95, rdC s (q9 s)) :: T) by
    obtain ⟨_, h', e, v, T, rfl, q⟩ := hK
    exact ⟨v, T, h', e, q⟩
  rw [w_message_read]
  unfold message_read
  have M := Mem.one k hb
  have hn8 : 8 < n := by omega
  have hnum : ∀ {H : AHeap}, ∃ h', world n (d + 5) 23 [.ptr h.next 0] H = some (.ret (.agg (numsP h.next)), h') ∧ Tch [] H h' := numbers_w
  have hm0 := manyOf_lt s
  repeat (first | (with_reducible refine Wp.cl1 (u8_r (n := n) (d := d + 2) (Mem.at1 (by assumption)).1 (ok0 s) hs hn8) (by assumption) (fun _ _ => ?_)) | (with_reducible refine Wp.mcall hnum (by assumption) (fun _ _ _ => ?_)) | ((with_reducible apply Wp.ms0); (with_reducible assumption); exact Nat.le_of_ble_eq_true rfl; rfl; intro _ _) | ((with_reducible apply Wp.mnew); (with_reducible assumption); intro _ _) | (with_reducible refine Wp.join0 (fun _ _ => ?_)) | ((with_reducible apply Wp.obind); (with_reducible first | exact avInt_int _ _ | exact avAgg_agg _)) | rw [newP_eq])
  rename_i M1 _ k16 hk16
  have e0 : (zeros22.set 0 (.int .u8 ((rNum s 1 ⟨0, 0, 0⟩).1 : Int))) = (msgUp fI s 0).cells := rfl
  refine read_loop1 (d := d + 2) hs hn8 (fun h2 M2 => ?_) n 0 _ (by omega) (by omega) M1
  rw [up_all] at M2
  have hc4 : cntOf s ≤ 4 := by unfold cntOf; split <;> omega
  have b4 : (rNum s 4 (q4 s)).1 < 4294967296 := rNum_lt (w := 4)
  have b5 : (rNum s 1 (q5 s)).1 < 256 := rNum_lt (w := 1)
  have b7 : (rNum s 1 (q7 s)).1 < 256 := rNum_lt (w := 1)
  have hcnt : (if (4 : Int) < ((rNum s 1 (q7 s)).1 : Int) then 4 else ((rNum s 1 (q7 s)).1 : Int)) = (cntOf s : Int) := by
    unfold cntOf manyOf
    split <;> split <;> omega
  repeat (first | (with_reducible refine Wp.cl1 (bool_r (n := n) (d := d + 1) (Mem.at1 (by assumption)).1 (ok2 s) hs hn8) (by assumption) (fun _ _ => ?_)) | (with_reducible refine Wp.cl1 (u8_r (n := n) (d := d + 2) (Mem.at1 (by assumption)).1 (ok3 s) hs hn8) (by assumption) (fun _ _ => ?_)) | (with_reducible refine Wp.cl1 (u32_r (n := n) (d := d + 2) (Mem.at1 (by assumption)).1 (ok4 s) hs hn8) (by assumption) (fun _ _ => ?_)) | (with_reducible refine Wp.cl1 (u8_r (n := n) (d := d + 2) (Mem.at1 (by assumption)).1 (ok5 s) hs hn8) (by assumption) (fun _ _ => ?_)) | (with_reducible refine Wp.cl1 (text_r (n := n) (d := d) (most := 3500) (M := 3500) (Mem.at1 (by assumption)).1 (ok6 s) hs hn8 rfl) (by assumption) (fun _ _ => ?_)) | (with_reducible refine Wp.cl1 (u8_r (n := n) (d := d + 2) (Mem.at1 (by assumption)).1 (ok7 s) hs hn8) (by assumption) (fun _ _ => ?_)) | ((with_reducible apply Wp.ms0); (with_reducible assumption); exact Nat.le_of_ble_eq_true rfl; rfl; intro _ _) | (with_reducible refine Wp.join0 (fun _ _ => ?_)) | ((with_reducible refine Wp.lettw ?_ ?_ ?_); omega; omega) | (with_reducible refine Wp.lett ?_) | ((with_reducible apply Wp.obind); (with_reducible first | exact avInt_int _ _ | exact avBool_bool _ | exact avStr_str _)) | (with_reducible refine Wp.go0 (by assumption) ?_))
  rename_i M3 k59 hk59
  rw [hcnt]
  refine read_loop0 (d := d) hs hn8 hx (msgF fI s) (fun _ => rfl) (fun _ _ => rfl) (fun h4 v T g M4 => ?_) n 0 _ .nsl [] (by omega) (by omega) (GrowT.nil _ _) M3
  have hone : (msgF fI s v).cells.all AV.one = true := by
    have := g.one.1
    simp only [msgF, Ms.cells, List.all_cons, List.all_nil, this]
    rfl
  repeat ((with_reducible refine Wp.go0 (by assumption) ?_))
  refine Wp.lr0 M4 rfl ?_
  refine Wp.sa0 M4 rfl rfl hone (fun h5 M5 => ?_)
  refine Wp.lr0 M5 rfl ?_
  exact Wp.ret ⟨v, T, rfl, g, _, M5⟩
end
end Go.Proofs.Ytmibgiblejpgdaa
